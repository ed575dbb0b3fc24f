/-
  Rows of lines in memory of their own; the contracts of the helpers of the exact laws that copy and mark them.
-/
import Derived.Test.YtfknelkbdoiokaaGreatDoorStList
import Derived.Test.YtfknelkbdoiokaaGreatDoorGM
namespace Go.Proofs.YtfknelkbdoiokaaGreatDoor
open Go.RowKit

/-- Lines at block g from cell off on; the kids of each lie in blocks of their own, one line's behind another's, from block lo to hi. -/
def OwnS (w : World) (g : Nat) : List St → Nat → Nat → Nat → Prop
  | [], _, lo, hi => lo ≤ hi
  | s :: ss, off, lo, hi => ∃ D1 m1 D2 m2 m mid, LineC w g off s D1 m1 D2 m2 ∧ OwnE w s.e lo m D1 ∧ OwnE w s.t m mid D2 ∧ OwnS w g ss (off + 11) mid hi
theorem ownS_le {w : World} {g : Nat} (ss : List St) : ∀ off lo hi, OwnS w g ss off lo hi → lo ≤ hi := by
  induction ss with
  | nil => intro off lo hi h; rw [OwnS] at h; exact h
  | cons s ss ih =>
    intro off lo hi h
    rw [OwnS] at h
    obtain ⟨D1, m1, D2, m2, m, mid, _, h1, h2, h3⟩ := h
    exact Nat.le_trans (own_le _ _ _ _ _ h1) (Nat.le_trans (own_le _ _ _ _ _ h2) (ih _ _ _ h3))
theorem ownS_keep {w w' : World} {g : Nat} {ss : List St} : ∀ {off lo hi : Nat}, (∀ i, off ≤ i → i < off + 11 * ss.length → w'.cell? ⟨g, i, none⟩ = w.cell? ⟨g, i, none⟩) → (∀ b, lo ≤ b → b < hi → w'.heap[b]? = w.heap[b]?) → OwnS w g ss off lo hi → OwnS w' g ss off lo hi := by
  induction ss with
  | nil => intro off lo hi _ _ h; rw [OwnS] at h ⊢; exact h
  | cons s ss ih =>
    intro off lo hi hc hb h
    rw [OwnS] at h ⊢
    obtain ⟨D1, m1, D2, m2, m, mid, h0, h1, h2, h3⟩ := h
    have l1 := own_le _ _ _ _ _ h1
    have l2 := own_le _ _ _ _ _ h2
    have l3 := ownS_le _ _ _ _ h3
    rw [List.length_cons] at hc
    exact ⟨D1, m1, D2, m2, m, mid, h0.move (fun i q1 q2 => hc i q1 (by omega)), own_keep _ _ _ _ (fun b q1 q2 => hb b q1 (by omega)) h1, own_keep _ _ _ _ (fun b q1 q2 => hb b (by omega) (by omega)) h2, ih (fun i q1 q2 => hc i (by omega) (by omega)) (fun b q1 q2 => hb b (by omega) q2) h3⟩
theorem ownS_snoc {w : World} {g : Nat} {ss : List St} {s : St} : ∀ {off lo mid m hi : Nat} {D1 D2 : Option Addr} {m1 m2 : Nat}, OwnS w g ss off lo mid → LineC w g (off + 11 * ss.length) s D1 m1 D2 m2 → OwnE w s.e mid m D1 → OwnE w s.t m hi D2 → OwnS w g (ss ++ [s]) off lo hi := by
  induction ss with
  | nil =>
    intro off lo mid m hi D1 D2 m1 m2 h hC h1 h2
    rw [OwnS] at h
    rw [List.nil_append, OwnS]
    exact ⟨D1, m1, D2, m2, m, hi, hC, own_wide h1 h (Nat.le_refl _), h2, by rw [OwnS]; exact Nat.le_refl _⟩
  | cons x ss ih =>
    intro off lo mid m hi D1 D2 m1 m2 h hC h1 h2
    rw [OwnS] at h
    obtain ⟨E1, n1, E2, n2, k, kid, q0, q1, q2, q3⟩ := h
    rw [List.cons_append, OwnS]
    refine ⟨E1, n1, E2, n2, k, kid, q0, q1, q2, ih q3 (m1 := m1) (m2 := m2) ?_ h1 h2⟩
    rw [show off + 11 + 11 * ss.length = off + 11 * (x :: ss).length by rw [List.length_cons]; omega]
    exact hC
theorem ownS_each {w : World} {g : Nat} {ss : List St} : ∀ {off lo hi : Nat}, OwnS w g ss off lo hi → ∀ k (hk : k < ss.length), ∃ D1 m1 D2 m2 a m b, LineC w g (off + k * 11) ss[k] D1 m1 D2 m2 ∧ OwnE w ss[k].e a m D1 ∧ OwnE w ss[k].t m b D2 ∧ b ≤ hi := by
  induction ss with
  | nil => intro off lo hi _ k hk; exact absurd hk (Nat.not_lt_zero _)
  | cons x ss ih =>
    intro off lo hi h k hk
    rw [OwnS] at h
    obtain ⟨E1, n1, E2, n2, m, mid, q0, q1, q2, q3⟩ := h
    cases k with
    | zero => exact ⟨E1, n1, E2, n2, lo, m, mid, by rw [Nat.zero_mul, Nat.add_zero]; exact q0, q1, q2, ownS_le _ _ _ _ q3⟩
    | succ k =>
      obtain ⟨F1, p1, F2, p2, a, m', b, r0, r1, r2, r3⟩ := ih q3 k (by simpa using hk)
      exact ⟨F1, p1, F2, p2, a, m', b, by rw [show off + (k + 1) * 11 = off + 11 + k * 11 by omega]; exact r0, r1, r2, r3⟩
theorem ownS_lines {w : World} {g : Nat} {xs : List St} {lo hi B : Nat} (h : OwnS w g xs 0 lo hi) (hB : hi ≤ B) (hg : g < B) : LinesU w B (some ⟨g, 0, none⟩) xs := by
  refine .inr ⟨g, 0, rfl, hg, fun k hk => ?_⟩
  obtain ⟨F1, p1, F2, p2, a, m', b, r0, r1, r2, r3⟩ := ownS_each h k hk
  have := own_le _ _ _ _ _ r2
  exact ⟨F1, p1, F2, p2, r0, own_kidsU _ _ _ _ _ r1 (by omega), own_kidsU _ _ _ _ _ r2 (by omega)⟩
/-- A copy of the lines is handed back, in memory of its own. -/
def CopiesO (xs : List St) (w : World) (r : Ending) (w' : World) : Prop :=
  ∃ c, r = .returned (.slice (some ⟨w.heap.size, 0, none⟩) xs.length c) ∧ xs.length ≤ c ∧ (∃ cur, BlkS w' w.heap.size cur) ∧ OwnS w' w.heap.size xs 0 (w.heap.size + 1) w'.heap.size ∧ Below w.heap.size w w'
set_option linter.unusedVariables false in
set_option linter.unusedSimpArgs false in
set_option maxRecDepth 100000 in
set_option maxHeartbeats 8000000 in
theorem toStmtS_own (xs : List St) (A : Option Addr) (c B : Nat) (w : World) (hA : LinesAt w B A xs) (hB : B ≤ w.heap.size) (hw : stWts xs ≤ 2 ^ 29) :
    Calls Tryz.prog 41 #[.slice A xs.length c] w (CopiesO xs w) := by
  have hl : xs.length ≤ 2 ^ 29 := Nat.le_trans (stWts_length xs) hw
  have hmk := run_makeSt xs.length (by omega)
  have HA := Lib.hid hA
  have HW := Lib.hid (fun (s : St) (h : s ∈ xs) => Nat.le_trans (stWts_mem h) hw)
  clear hA hw
  go_enter Tryz.func41, Tryz.ntmps41
  go_wp2_with fail
  go_loopw [4] (fun i wr => ∃ j : Nat, j ≤ xs.length ∧ i = .int .i64 j ∧ (∃ cur, BlkS wr w.heap.size cur ∧ cur.size = xs.length * 11) ∧ Hid (OwnS wr w.heap.size (xs.take j) 0 (w.heap.size + 1) wr.heap.size) ∧ Below w.heap.size w wr)
    (fun i _ => xs.length - (intOf i).toNat)
  case atStart => exact ⟨0, Nat.zero_le _, rfl, ⟨_, World.alloc_heap_new w _, by rw [size_madeCells]⟩, Lib.hid (by rw [List.take_zero, OwnS]; simp), (Below.refl _ w).alloc (Nat.le_refl _) _⟩
  case round =>
    obtain ⟨j, hj, rfl, ⟨cur, hcur, hcs⟩, HOWN, hBw⟩ := hrel
    clear hmk
    by_cases hlt : j < xs.length
    · obtain ⟨g, off, D1, m1, D2, m2, eA, hg, hC, hk1, hk2⟩ := LinesK.at_ (HA.out.keep (hBw.mono hB)) hlt
      subst eA
      obtain ⟨⟨c0, c1, c2, c3, c4, c5, c6, c7, c8, c9, c10⟩, hm1, hm2⟩ := hC
      have HC := Lib.hid (toStmt_any xs[j] D1 D2 m1 m2 B wr hk1 hk2 hm1 hm2 (Nat.le_trans hB hBw.size) (by have := HW.out _ (List.getElem_mem hlt); omega))
      have HCU := Lib.hid hcur
      have hx : (j : Int) < (xs.length : Int) := by omega
      have hx2 : j * 11 + 11 ≤ cur.size := by omega
      have HJ := Lib.hid (show ∀ s, s = xs[j] → xs[j] = s from fun s h => h.symm)
      obtain ⟨x, hxj⟩ : ∃ x, x = xs[j] := ⟨_, rfl⟩
      have HXJ := Lib.hid hxj
      rw [← hxj] at HC c0 c1 c2 c3 c4 c5 c6 c7 c8 c9 c10 hm1 hm2
      clear hk1 hk2 hxj HJ hcur
      go_wp2_with fail
      refine HC.out.mono ?_
      rintro e w1 ⟨X1, k1, X2, k2, mid, rfl, hk1, hk2, hO1, hO2, hb1⟩
      have hcur1 : BlkS w1 w.heap.size cur := (hb1.block _ HCU.out.lt).trans HCU.out
      obtain ⟨v0, e0⟩ : ∃ v, w1.cell? ⟨w.heap.size, j * 11, none⟩ = some v := ⟨cur[j * 11]'(by omega), by rw [hcur1.cell, Array.getElem?_eq_getElem]⟩
      have f0 := hcur1.frozen (j * 11)
      obtain ⟨v1, e1⟩ : ∃ v, w1.cell? ⟨w.heap.size, j * 11 + 1, none⟩ = some v := ⟨cur[j * 11 + 1]'(by omega), by rw [hcur1.cell, Array.getElem?_eq_getElem]⟩
      have f1 := hcur1.frozen (j * 11 + 1)
      obtain ⟨v2, e2⟩ : ∃ v, w1.cell? ⟨w.heap.size, j * 11 + 2, none⟩ = some v := ⟨cur[j * 11 + 2]'(by omega), by rw [hcur1.cell, Array.getElem?_eq_getElem]⟩
      have f2 := hcur1.frozen (j * 11 + 2)
      obtain ⟨v3, e3⟩ : ∃ v, w1.cell? ⟨w.heap.size, j * 11 + 3, none⟩ = some v := ⟨cur[j * 11 + 3]'(by omega), by rw [hcur1.cell, Array.getElem?_eq_getElem]⟩
      have f3 := hcur1.frozen (j * 11 + 3)
      obtain ⟨v4, e4⟩ : ∃ v, w1.cell? ⟨w.heap.size, j * 11 + 4, none⟩ = some v := ⟨cur[j * 11 + 4]'(by omega), by rw [hcur1.cell, Array.getElem?_eq_getElem]⟩
      have f4 := hcur1.frozen (j * 11 + 4)
      obtain ⟨v5, e5⟩ : ∃ v, w1.cell? ⟨w.heap.size, j * 11 + 5, none⟩ = some v := ⟨cur[j * 11 + 5]'(by omega), by rw [hcur1.cell, Array.getElem?_eq_getElem]⟩
      have f5 := hcur1.frozen (j * 11 + 5)
      obtain ⟨v6, e6⟩ : ∃ v, w1.cell? ⟨w.heap.size, j * 11 + 6, none⟩ = some v := ⟨cur[j * 11 + 6]'(by omega), by rw [hcur1.cell, Array.getElem?_eq_getElem]⟩
      have f6 := hcur1.frozen (j * 11 + 6)
      obtain ⟨v7, e7⟩ : ∃ v, w1.cell? ⟨w.heap.size, j * 11 + 7, none⟩ = some v := ⟨cur[j * 11 + 7]'(by omega), by rw [hcur1.cell, Array.getElem?_eq_getElem]⟩
      have f7 := hcur1.frozen (j * 11 + 7)
      obtain ⟨v8, e8⟩ : ∃ v, w1.cell? ⟨w.heap.size, j * 11 + 8, none⟩ = some v := ⟨cur[j * 11 + 8]'(by omega), by rw [hcur1.cell, Array.getElem?_eq_getElem]⟩
      have f8 := hcur1.frozen (j * 11 + 8)
      obtain ⟨v9, e9⟩ : ∃ v, w1.cell? ⟨w.heap.size, j * 11 + 9, none⟩ = some v := ⟨cur[j * 11 + 9]'(by omega), by rw [hcur1.cell, Array.getElem?_eq_getElem]⟩
      have f9 := hcur1.frozen (j * 11 + 9)
      obtain ⟨v10, e10⟩ : ∃ v, w1.cell? ⟨w.heap.size, j * 11 + 10, none⟩ = some v := ⟨cur[j * 11 + 10]'(by omega), by rw [hcur1.cell, Array.getElem?_eq_getElem]⟩
      have f10 := hcur1.frozen (j * 11 + 10)
      have HC1 := Lib.hid hcur1
      have HO1 := Lib.hid hO1
      have HO2 := Lib.hid hO2
      have hlw := HCU.out.lt
      have hz1 := hb1.size
      clear hcur1 c0 c1 c2 c3 c4 c5 c6 c7 c8 c9 c10 HC hO1 hO2
      go_wp2_with fail
      go_roundw
      case rel =>
        obtain ⟨wn, hwn⟩ : ∃ wn, wn = (((((((((((w1.setCell ⟨w.heap.size, j * 11, none⟩ (.int .i64 x.kind)).setCell ⟨w.heap.size, j * 11 + 1, none⟩ (.string x.name)).setCell ⟨w.heap.size, j * 11 + 2, none⟩ (.string x.typ)).setCell ⟨w.heap.size, j * 11 + 3, none⟩ (.int .i64 x.e.kind)).setCell ⟨w.heap.size, j * 11 + 4, none⟩ (.int .i64 x.e.n)).setCell ⟨w.heap.size, j * 11 + 5, none⟩ (.string x.e.s)).setCell ⟨w.heap.size, j * 11 + 6, none⟩ (.slice X1 x.e.kids.length k1)).setCell ⟨w.heap.size, j * 11 + 7, none⟩ (.int .i64 x.t.kind)).setCell ⟨w.heap.size, j * 11 + 8, none⟩ (.int .i64 x.t.n)).setCell ⟨w.heap.size, j * 11 + 9, none⟩ (.string x.t.s)).setCell ⟨w.heap.size, j * 11 + 10, none⟩ (.slice X2 x.t.kids.length k2)) := ⟨_, rfl⟩
        have hwa : wn = setAll w1 w.heap.size (j * 11) [.int .i64 x.kind, .string x.name, .string x.typ, .int .i64 x.e.kind, .int .i64 x.e.n, .string x.e.s, .slice X1 x.e.kids.length k1, .int .i64 x.t.kind, .int .i64 x.t.n, .string x.t.s, .slice X2 x.t.kids.length k2] := by rw [hwn]; rfl
        rw [← hwn]
        clear hwn
        obtain ⟨hpre, hnew, cur', hcur', hcs'⟩ := setAll_row w.heap.size [.int .i64 x.kind, .string x.name, .string x.typ, .int .i64 x.e.kind, .int .i64 x.e.n, .string x.e.s, .slice X1 x.e.kids.length k1, .int .i64 x.t.kind, .int .i64 x.t.n, .string x.t.s, .slice X2 x.t.kids.length k2] (j * 11) cur w1 HC1.out (by simpa using hx2)
        rw [← hwa] at hpre hnew hcur'
        have hsame : ∀ b, b ≠ w.heap.size → wn.heap[b]? = w1.heap[b]? := fun b hb => by rw [hwa]; exact setAll_other _ _ _ _ hb
        have hsz : wn.heap.size = w1.heap.size := by rw [hwa]; exact setAll_size _ _ _ _
        have hos : wn.os = w1.os ∧ wn.tape = w1.tape ∧ wn.output = w1.output := by rw [hwa]; exact setAll_os _ _ _ _
        refine ⟨j + 1, by omega, by go_num, ⟨cur', hcur', by omega⟩, Lib.hid ?_, ?_⟩
        · rw [List.take_succ_eq_append_getElem hlt, ← HXJ.out, hsz]
          refine ownS_snoc (mid := wr.heap.size) (m := mid) (D1 := X1) (m1 := k1) (D2 := X2) (m2 := k2) (ownS_keep (w := wr) (fun i h1 h2 => ?_) (fun b h1 h2 => (hsame b (by omega)).trans (hb1.block b h2)) HOWN.out) ?_ (own_keep _ _ _ _ (fun b h1 h2 => hsame b (by omega)) HO1.out) (own_keep _ _ _ _ (fun b h1 h2 => hsame b (by have := own_le _ _ _ _ _ HO1.out; omega)) HO2.out)
          · rw [List.length_take, Nat.min_eq_left hj] at h2
            exact (hpre i (by omega)).trans (World.cell?_of_block (a := ⟨w.heap.size, i, none⟩) (hb1.block _ hlw))
          · rw [List.length_take, Nat.min_eq_left hj, Nat.zero_add, Nat.mul_comm 11 j]
            exact ⟨⟨hnew 0 _ rfl, hnew 1 _ rfl, hnew 2 _ rfl, hnew 3 _ rfl, hnew 4 _ rfl, hnew 5 _ rfl, hnew 6 _ rfl, hnew 7 _ rfl, hnew 8 _ rfl, hnew 9 _ rfl, hnew 10 _ rfl⟩, hk1, hk2⟩
        · exact (hBw.trans (hb1.mono hBw.size)).trans ⟨hos.1, hos.2.1, hos.2.2, by omega, fun b hb => hsame b (by omega)⟩
      case measure => simp [intOf]; omega
    · have HCU := Lib.hid hcur
      clear hcur
      go_wp2_with fail
      go_ret
      have h1 := HOWN.out
      rw [show j = xs.length by omega, List.take_length] at h1
      exact ⟨_, rfl, Nat.le_refl _, ⟨cur, HCU.out⟩, h1, hBw⟩
/-- A line under way to be marked: its lists of kids stand yet, and all behind it. -/
structure MkS (wr : World) (g j lo hi : Nat) (S1 S2 : Value) (W : World) : Prop where
  blk : ∃ cur, BlkS W g cur ∧ cur[j * 11 + 6]? = some S1 ∧ cur[j * 11 + 10]? = some S2
  rest : ∀ i, j * 11 + 11 ≤ i → W.cell? ⟨g, i, none⟩ = wr.cell? ⟨g, i, none⟩
  away : ∀ b, b < wr.heap.size → b ≠ g → (b < lo ∨ hi ≤ b) → W.heap[b]? = wr.heap[b]?
  size : wr.heap.size ≤ W.heap.size
  os : W.os = wr.os
  tape : W.tape = wr.tape
  output : W.output = wr.output
theorem MkS.set {wr W : World} {g j lo hi : Nat} {S1 S2 : Value} (h : MkS wr g j lo hi S1 S2 W) (i : Nat) (v : Value) (h1 : i < 11) (h2 : i ≠ 6) (h3 : i ≠ 10) : MkS wr g j lo hi S1 S2 (W.setCell ⟨g, j * 11 + i, none⟩ v) := by
  obtain ⟨⟨cur, hb, k6, k10⟩, hr, ha, hs, ho, ht, hu⟩ := h
  have hb2 := hb.set (j * 11 + i) v
  refine ⟨⟨_, hb2, by rw [Array.getElem?_setIfInBounds_ne (by omega)]; exact k6, by rw [Array.getElem?_setIfInBounds_ne (by omega)]; exact k10⟩, fun k hk => ?_, fun b q1 q2 q3 => ?_, by simpa using hs, ho, ht, hu⟩
  · rw [hb2.cell, Array.getElem?_setIfInBounds_ne (by omega), ← hb.cell]; exact hr k hk
  · rw [Below.heap_setCell _ _ _ b q2]; exact ha b q1 q2 q3
theorem MkS.below {wr W W' : World} {g j lo hi : Nat} {S1 S2 : Value} (h : MkS wr g j lo hi S1 S2 W) (hb : Below W.heap.size W W') : MkS wr g j lo hi S1 S2 W' := by
  obtain ⟨⟨cur, hc, k6, k10⟩, hr, ha, hs, ho, ht, hu⟩ := h
  exact ⟨⟨cur, hc.stay (hb.block _ hc.lt), k6, k10⟩, fun k hk => (hb.cell (p := ⟨g, k, none⟩) hc.lt).trans (hr k hk), fun b q1 q2 q3 => (hb.block b (by omega)).trans (ha b q1 q2 q3), Nat.le_trans hs hb.size, hb.os.trans ho, hb.tape.trans ht, hb.output.trans hu⟩
theorem MkS.turn {wr W W' : World} {g j lo hi a b : Nat} {S1 S2 : Value} (h : MkS wr g j lo hi S1 S2 W) (hT : Turned a b W W') (h1 : lo ≤ a) (h2 : hi ≤ b) (hg : g < lo) : MkS wr g j lo b S1 S2 W' := by
  obtain ⟨⟨cur, hc, k6, k10⟩, hr, ha, hs, ho, ht, hu⟩ := h
  have hk := hT.block g hc.lt (.inl (by omega))
  exact ⟨⟨cur, hc.stay hk, k6, k10⟩, fun k hk2 => (World.cell?_of_block (a := ⟨g, k, none⟩) hk).trans (hr k hk2), fun c q1 q2 q3 => (hT.block c (by omega) (by omega)).trans (ha c q1 q2 (by omega)), Nat.le_trans hs hT.size, hT.os.trans ho, hT.tape.trans ht, hT.output.trans hu⟩
theorem MkS.cell {wr W : World} {g j lo hi : Nat} {S1 S2 : Value} (h : MkS wr g j lo hi S1 S2 W) (i : Nat) (hi : i < 11) : ∃ v, W.cell? ⟨g, j * 11 + i, none⟩ = some v := by
  obtain ⟨⟨cur, hc, k6, k10⟩, _⟩ := h
  have hl := (Array.getElem?_eq_some_iff.1 k10).1
  exact ⟨cur[j * 11 + i]'(by omega), by rw [hc.cell, Array.getElem?_eq_getElem]⟩
theorem MkS.frozen {wr W : World} {g j lo hi : Nat} {S1 S2 : Value} (h : MkS wr g j lo hi S1 S2 W) (i : Nat) : W.frozen? ⟨g, i, none⟩ = false := by
  obtain ⟨⟨cur, hc, _⟩, _⟩ := h
  exact hc.frozen i
theorem MkS.k6 {wr W : World} {g j lo hi : Nat} {S1 S2 : Value} (h : MkS wr g j lo hi S1 S2 W) : W.cell? ⟨g, j * 11 + 6, none⟩ = some S1 := by
  obtain ⟨⟨cur, hc, k6, k10⟩, _⟩ := h; rw [hc.cell]; exact k6
theorem MkS.k10 {wr W : World} {g j lo hi : Nat} {S1 S2 : Value} (h : MkS wr g j lo hi S1 S2 W) : W.cell? ⟨g, j * 11 + 10, none⟩ = some S2 := by
  obtain ⟨⟨cur, hc, k6, k10⟩, _⟩ := h; rw [hc.cell]; exact k10
theorem nod_wt (e : Ex) : Ex.nodess e.kids ≤ e.wt := by
  have h1 := e.nodes_le
  have h2 : e.nodes = 1 + Ex.nodess e.kids := by cases e; rfl
  omega
set_option linter.unusedVariables false in
set_option linter.unusedSimpArgs false in
set_option maxRecDepth 100000 in
set_option maxHeartbeats 16000000 in
theorem markStmtS_any (xs : List St) (g c lo hi : Nat) (w : World) (hB : ∃ cur, BlkS w g cur) (hO : OwnS w g xs 0 lo hi) (hg : g < lo) (hhi : hi ≤ w.heap.size) (hw : stWts xs ≤ 2 ^ 29) :
    Calls Tryz.prog 47 #[.slice (some ⟨g, 0, none⟩) xs.length c, .int .i64 1] w fun r w' => ∃ k : Nat, r = .returned (.int .i64 (k : Int)) ∧ Turned g hi w w' := by
  have hl : xs.length ≤ 2 ^ 29 := Nat.le_trans (stWts_length xs) hw
  have HB := Lib.hid hB
  have HO := Lib.hid hO
  have HWT := Lib.hid hw
  clear hB hO hw
  go_enter Tryz.func47, Tryz.ntmps47
  go_wp2_with fail
  go_loopw [1, 5] (fun d i wr => ∃ j m lo' : Nat, j ≤ xs.length ∧ i = .int .i64 j ∧ d = .int .i64 (m : Int) ∧ 0 < m ∧ Hid (m ≤ 1 + 9 * stWts (xs.take j)) ∧ lo ≤ lo' ∧ Hid (∃ cur, BlkS wr g cur) ∧ Hid (OwnS wr g (xs.drop j) (j * 11) lo' hi) ∧ Turned g hi w wr)
    (fun _ i _ => xs.length - (intOf i).toNat)
  case atStart => exact ⟨0, 1, lo, Nat.zero_le _, rfl, rfl, by omega, by simp [stWts, Hid], Nat.le_refl _, HB, Lib.hid (by rw [List.drop_zero, Nat.zero_mul]; exact HO.out), Turned.refl _ _ _⟩
  case round =>
    obtain ⟨j, m, lo', hj, rfl, rfl, hm0, HM, hlo, HBK, HOW, hT⟩ := hrel
    by_cases hlt : j < xs.length
    · have hts := stWts_take xs j hlt
      have htl := stWts_mem (List.getElem_mem hlt)
      have htk : stWts (xs.take (j + 1)) ≤ stWts xs := by
        have h1 : stWts xs = stWts (xs.take (j + 1)) + stWts (xs.drop (j + 1)) := by
          unfold stWts
          rw [← List.sum_append, ← List.map_append, List.take_append_drop]
        omega
      have hmw : m + 9 * (xs[j].wt + 1) ≤ 1 + 9 * stWts (xs.take (j + 1)) := by have := HM.out; omega
      have hmb : m + 9 * (xs[j].wt + 1) ≤ 2 ^ 33 := by have := HWT.out; omega
      have HMW := Lib.hid hmw
      obtain ⟨D1, m1, D2, m2, q, mid, hC, hE1, hE2, hRest⟩ : ∃ D1 m1 D2 m2 q mid, LineC wr g (j * 11) xs[j] D1 m1 D2 m2 ∧ OwnE wr xs[j].e lo' q D1 ∧ OwnE wr xs[j].t q mid D2 ∧ OwnS wr g (xs.drop (j + 1)) (j * 11 + 11) mid hi := by
        have h1 := HOW.out
        rw [List.drop_eq_getElem_cons hlt, OwnS] at h1
        exact h1
      have l1 := own_le _ _ _ _ _ hE1
      have l2 := own_le _ _ _ _ _ hE2
      have l3 := ownS_le _ _ _ _ hRest
      have hzw := hT.size
      have n1 := nod_wt xs[j].e
      have n2 := nod_wt xs[j].t
      have k1 := Ex.nodess_length xs[j].e.kids
      have k2 := Ex.nodess_length xs[j].t.kids
      have hwx : xs[j].wt = xs[j].name.size + xs[j].typ.size + xs[j].e.wt + xs[j].t.wt := by unfold St.wt; omega
      obtain ⟨⟨_, _, _, _, _, _, c6, _, _, _, c10⟩, hm1, hm2⟩ := hC
      generalize xs[j] = x at *
      have HX1 := Lib.hid (fun (k : Nat) (W : World) (h : OwnE W x.e lo' q D1) (hW : q ≤ W.heap.size) (h0 : 0 < k) (hk : k ≤ m + 20) => (markExprS_any x.e D1 m1 k lo' q W h hW h0 (by omega) (by omega)).mono (fun r w' (h : _ ∧ _ ∧ _) => And.intro h.1 h.2.2))
      have HX2 := Lib.hid (fun (k : Nat) (W : World) (h : OwnE W x.t q mid D2) (hW : mid ≤ W.heap.size) (h0 : 0 < k) (hk : k ≤ m + 20 + 3 * Ex.nodess x.e.kids) => (markExprS_any x.t D2 m2 k q mid W h hW h0 (by omega) (by omega)).mono (fun r w' (h : _ ∧ _ ∧ _) => And.intro h.1 h.2.2))
      have HMT := Lib.hid (fun (k : Nat) (W : World) (h0 : 0 < k) (hk : k ≤ 2 ^ 40) => markText_any k W h0 hk)
      have M0 : MkS wr g j lo' lo' (.slice D1 x.e.kids.length m1) (.slice D2 x.t.kids.length m2) wr := by
        obtain ⟨cur, hcur⟩ := HBK.out
        exact ⟨⟨cur, hcur, by rw [← hcur.cell]; exact c6, by rw [← hcur.cell]; exact c10⟩, fun _ _ => rfl, fun _ _ _ _ => rfl, Nat.le_refl _, rfl, rfl, rfl⟩
      have HE1 := Lib.hid hE1
      have HE2 := Lib.hid hE2
      have HRS := Lib.hid hRest
      have HW3 := Lib.hid (show 9 + 3 * Ex.nodess x.e.kids + 3 * Ex.nodess x.t.kids ≤ 9 * (x.wt + 1) by omega)
      generalize x.e.kids.length = z1 at *
      generalize x.t.kids.length = z2 at *
      generalize Ex.nodess x.e.kids = d1 at *
      generalize Ex.nodess x.t.kids = d2 at *
      obtain ⟨v0, e0⟩ := M0.cell 0 (by omega)
      have f0 := M0.frozen (j * 11)
      rw [Nat.add_zero] at e0
      have hx : (j : Int) < (xs.length : Int) := by omega
      have hd : d1 ≤ 2 ^ 33 ∧ d2 ≤ 2 ^ 33 := by omega
      have HM0 := Lib.hid M0
      clear hE1 hE2 hRest hmw htk hts htl c6 c10 n1 n2 k1 k2 hwx M0
      go_wp2_with fail
      obtain ⟨V1, hV1⟩ : ∃ V, V = (wr.setCell ⟨g, j * 11, none⟩ (.int .i64 (m : Int))) := ⟨_, rfl⟩
      have M1 : MkS wr g j lo' lo' (.slice D1 z1 m1) (.slice D2 z2 m2) V1 := by rw [hV1]; exact (HM0.out.set 0 (.int .i64 (m : Int)) (by omega) (by omega) (by omega))
      rw [← hV1]
      clear hV1
      have HC1 := Lib.hid (HMT.out (m + 1) V1 (by omega) (by omega))
      rw [show ((m + 1 : Nat) : Int) = (m : Int) + 1 by omega] at HC1
      generalize markS (m + 1) = t1 at *
      refine HC1.out.mono ?_
      rintro r w1 ⟨rfl, hb1⟩
      have N1 := M1.below hb1
      clear hb1
      obtain ⟨v1_1, e1_1⟩ : ∃ v, w1.cell? ⟨g, j * 11 + 1, none⟩ = some v := N1.cell 1 (by omega)
      have f1_1 := N1.frozen (j * 11 + 1)
      have HM1 := Lib.hid N1
      clear M1 N1 HM0 HC1
      go_wp2_with fail
      obtain ⟨V2, hV2⟩ : ∃ V, V = (w1.setCell ⟨g, j * 11 + 1, none⟩ (.string t1)) := ⟨_, rfl⟩
      have M2 : MkS wr g j lo' lo' (.slice D1 z1 m1) (.slice D2 z2 m2) V2 := by rw [hV2]; exact (HM1.out.set 1 (.string t1) (by omega) (by omega) (by omega))
      rw [← hV2]
      clear hV2
      have HC2 := Lib.hid (HMT.out (m + 2) V2 (by omega) (by omega))
      rw [show ((m + 2 : Nat) : Int) = (m : Int) + 1 + 1 by omega] at HC2
      generalize markS (m + 2) = t2 at *
      refine HC2.out.mono ?_
      rintro r w2 ⟨rfl, hb2⟩
      have N2 := M2.below hb2
      clear hb2
      obtain ⟨v2_2, e2_2⟩ : ∃ v, w2.cell? ⟨g, j * 11 + 2, none⟩ = some v := N2.cell 2 (by omega)
      have f2_2 := N2.frozen (j * 11 + 2)
      obtain ⟨v2_3, e2_3⟩ : ∃ v, w2.cell? ⟨g, j * 11 + 3, none⟩ = some v := N2.cell 3 (by omega)
      have f2_3 := N2.frozen (j * 11 + 3)
      obtain ⟨v2_4, e2_4⟩ : ∃ v, w2.cell? ⟨g, j * 11 + 3 + 1, none⟩ = some v := N2.cell 4 (by omega)
      have f2_4 := N2.frozen (j * 11 + 3 + 1)
      have HM2 := Lib.hid N2
      clear M2 N2 HM1 HC2
      go_wp2_with fail
      obtain ⟨V3, hV3⟩ : ∃ V, V = (((w2.setCell ⟨g, j * 11 + 2, none⟩ (.string t2)).setCell ⟨g, j * 11 + 3, none⟩ (.int .i64 ((m : Int) + 1 + 1 + 1))).setCell ⟨g, j * 11 + 3 + 1, none⟩ (.int .i64 ((m : Int) + 1 + 1 + 1 + 1))) := ⟨_, rfl⟩
      have M3 : MkS wr g j lo' lo' (.slice D1 z1 m1) (.slice D2 z2 m2) V3 := by rw [hV3]; exact (((HM2.out.set 2 (.string t2) (by omega) (by omega) (by omega)).set 3 (.int .i64 ((m : Int) + 1 + 1 + 1)) (by omega) (by omega) (by omega)).set 4 (.int .i64 ((m : Int) + 1 + 1 + 1 + 1)) (by omega) (by omega) (by omega))
      rw [← hV3]
      clear hV3
      have HC3 := Lib.hid (HMT.out (m + 5) V3 (by omega) (by omega))
      rw [show ((m + 5 : Nat) : Int) = (m : Int) + 1 + 1 + 1 + 1 + 1 by omega] at HC3
      generalize markS (m + 5) = t3 at *
      refine HC3.out.mono ?_
      rintro r w3 ⟨rfl, hb3⟩
      have N3 := M3.below hb3
      clear hb3
      obtain ⟨v3_5, e3_5⟩ : ∃ v, w3.cell? ⟨g, j * 11 + 3 + 2, none⟩ = some v := N3.cell 5 (by omega)
      have f3_5 := N3.frozen (j * 11 + 3 + 2)
      have l3 : w3.cell? ⟨g, j * 11 + 3 + 3, none⟩ = some _ := N3.k6
      have HM3 := Lib.hid N3
      clear M3 N3 HM2 HC3
      go_wp2_with fail
      obtain ⟨V4, hV4⟩ : ∃ V, V = (w3.setCell ⟨g, j * 11 + 3 + 2, none⟩ (.string t3)) := ⟨_, rfl⟩
      have M4 : MkS wr g j lo' lo' (.slice D1 z1 m1) (.slice D2 z2 m2) V4 := by rw [hV4]; exact (HM3.out.set 5 (.string t3) (by omega) (by omega) (by omega))
      rw [← hV4]
      clear hV4
      have HC4 := Lib.hid (HX1.out (m + 6) V4 (own_keep _ _ _ _ (fun b h1 h2 => M4.away b (by omega) (by omega) (by omega)) HE1.out) (by have := M4.size; omega) (by omega) (by omega))
      rw [show ((m + 6 : Nat) : Int) = (m : Int) + 1 + 1 + 1 + 1 + 1 + 1 by omega] at HC4
      obtain ⟨k, hk⟩ : ∃ kn, kn = m + 6 + 3 * d1 := ⟨_, rfl⟩
      rw [← hk] at HC4
      have HKk := Lib.hid hk
      have hbk : k ≤ 2 ^ 38 := by omega
      have hpk : 0 < k := by omega
      clear hk
      refine HC4.out.mono ?_
      rintro r w4 ⟨rfl, hT4⟩
      have N4 := M4.turn hT4 (Nat.le_refl _) l1 (by omega)
      clear hT4
      obtain ⟨v4_7, e4_7⟩ : ∃ v, w4.cell? ⟨g, j * 11 + 7, none⟩ = some v := N4.cell 7 (by omega)
      have f4_7 := N4.frozen (j * 11 + 7)
      obtain ⟨v4_8, e4_8⟩ : ∃ v, w4.cell? ⟨g, j * 11 + 7 + 1, none⟩ = some v := N4.cell 8 (by omega)
      have f4_8 := N4.frozen (j * 11 + 7 + 1)
      have HM4 := Lib.hid N4
      clear M4 N4 HM3 HC4
      go_wp2_with fail
      obtain ⟨V5, hV5⟩ : ∃ V, V = ((w4.setCell ⟨g, j * 11 + 7, none⟩ (.int .i64 (k : Int))).setCell ⟨g, j * 11 + 7 + 1, none⟩ (.int .i64 ((k : Int) + 1))) := ⟨_, rfl⟩
      have M5 : MkS wr g j lo' q (.slice D1 z1 m1) (.slice D2 z2 m2) V5 := by rw [hV5]; exact ((HM4.out.set 7 (.int .i64 (k : Int)) (by omega) (by omega) (by omega)).set 8 (.int .i64 ((k : Int) + 1)) (by omega) (by omega) (by omega))
      rw [← hV5]
      clear hV5
      have HC5 := Lib.hid (HMT.out (k + 2) V5 (by omega) (by omega))
      rw [show ((k + 2 : Nat) : Int) = (k : Int) + 1 + 1 by omega] at HC5
      generalize markS (k + 2) = t5 at *
      refine HC5.out.mono ?_
      rintro r w5 ⟨rfl, hb5⟩
      have N5 := M5.below hb5
      clear hb5
      obtain ⟨v5_9, e5_9⟩ : ∃ v, w5.cell? ⟨g, j * 11 + 7 + 2, none⟩ = some v := N5.cell 9 (by omega)
      have f5_9 := N5.frozen (j * 11 + 7 + 2)
      have l5 : w5.cell? ⟨g, j * 11 + 7 + 3, none⟩ = some _ := N5.k10
      have HM5 := Lib.hid N5
      clear M5 N5 HM4 HC5
      go_wp2_with fail
      obtain ⟨V6, hV6⟩ : ∃ V, V = (w5.setCell ⟨g, j * 11 + 7 + 2, none⟩ (.string t5)) := ⟨_, rfl⟩
      have M6 : MkS wr g j lo' q (.slice D1 z1 m1) (.slice D2 z2 m2) V6 := by rw [hV6]; exact (HM5.out.set 9 (.string t5) (by omega) (by omega) (by omega))
      rw [← hV6]
      clear hV6
      have HC6 := Lib.hid (HX2.out (k + 3) V6 (own_keep _ _ _ _ (fun b h1 h2 => M6.away b (by omega) (by omega) (by omega)) HE2.out) (by have := M6.size; omega) (by omega) (by have := HKk.out; omega))
      rw [show ((k + 3 : Nat) : Int) = (k : Int) + 1 + 1 + 1 by omega] at HC6
      obtain ⟨n, hn⟩ : ∃ kn, kn = k + 3 + 3 * d2 := ⟨_, rfl⟩
      rw [← hn] at HC6
      have HKn := Lib.hid hn
      have hbn : n ≤ 2 ^ 39 := by omega
      have hpn : 0 < n := by omega
      clear hn
      refine HC6.out.mono ?_
      rintro r w6 ⟨rfl, hT6⟩
      have N6 := M6.turn hT6 l1 l2 (by omega)
      clear hT6
      have HM6 := Lib.hid N6
      clear M6 N6 HM5 HC6
      go_wp2_with fail
      go_roundw
      case rel =>
        have N := HM6.out
        refine ⟨j + 1, n, mid, by omega, by go_num, by go_num, hpn, ?_, by omega, ?_, ?_, ?_⟩
        · have h1 := HMW.out
          have h2 := HKk.out
          have h3 := HKn.out
          have h4 := HW3.out
          show _ ≤ _
          omega
        · obtain ⟨cur, hcur, _⟩ := N.blk
          exact ⟨cur, hcur⟩
        · show OwnS _ _ _ _ _ _
          rw [show (j + 1) * 11 = j * 11 + 11 by omega]
          exact ownS_keep (fun i h1 _ => N.rest i h1) (fun b h1 h2 => N.away b (by omega) (by omega) (.inr h1)) HRS.out
        · exact hT.trans ⟨N.os, N.tape, N.output, N.size, fun b h1 h2 => N.away b h1 (by omega) (by omega)⟩
      case measure => simp [intOf]; omega
    · go_wp2_with fail
      go_ret
      exact ⟨m, rfl, hT⟩
end Go.Proofs.YtfknelkbdoiokaaGreatDoor
