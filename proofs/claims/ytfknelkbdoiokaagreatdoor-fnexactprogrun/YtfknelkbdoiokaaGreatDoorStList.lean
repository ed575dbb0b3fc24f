/-
  Rows of lines: how they lie in memory, and the contracts of the helpers of the exact laws over them.
-/
import Derived.Test.YtfknelkbdoiokaaGreatDoorGN
import Derived.Test.YtfknelkbdoiokaaGreatDoorGD
import Derived.Laws.MakeOwn
namespace Go.Proofs.YtfknelkbdoiokaaGreatDoor
open Go.RowKit

/-- The cells of a line at a place of a row. -/
def LineC (w : World) (g off : Nat) (s : St) (D1 : Option Addr) (m1 : Nat) (D2 : Option Addr) (m2 : Nat) : Prop :=
  (w.cell? ⟨g, off, none⟩ = some (.int .i64 s.kind) ∧ w.cell? ⟨g, off + 1, none⟩ = some (.string s.name) ∧ w.cell? ⟨g, off + 2, none⟩ = some (.string s.typ) ∧ w.cell? ⟨g, off + 3, none⟩ = some (.int .i64 s.e.kind) ∧ w.cell? ⟨g, off + 4, none⟩ = some (.int .i64 s.e.n) ∧ w.cell? ⟨g, off + 5, none⟩ = some (.string s.e.s) ∧ w.cell? ⟨g, off + 6, none⟩ = some (.slice D1 s.e.kids.length m1) ∧ w.cell? ⟨g, off + 7, none⟩ = some (.int .i64 s.t.kind) ∧ w.cell? ⟨g, off + 8, none⟩ = some (.int .i64 s.t.n) ∧ w.cell? ⟨g, off + 9, none⟩ = some (.string s.t.s) ∧ w.cell? ⟨g, off + 10, none⟩ = some (.slice D2 s.t.kids.length m2)) ∧ s.e.kids.length ≤ m1 ∧ s.t.kids.length ≤ m2
theorem LineC.move {w w' : World} {g off : Nat} {s : St} {D1 D2 : Option Addr} {m1 m2 : Nat} (hC : LineC w g off s D1 m1 D2 m2) (h : ∀ i, off ≤ i → i < off + 11 → w'.cell? ⟨g, i, none⟩ = w.cell? ⟨g, i, none⟩) : LineC w' g off s D1 m1 D2 m2 := by
  obtain ⟨⟨c0, c1, c2, c3, c4, c5, c6, c7, c8, c9, c10⟩, hm1, hm2⟩ := hC
  exact ⟨⟨(h _ (by omega) (by omega)).trans c0, (h _ (by omega) (by omega)).trans c1, (h _ (by omega) (by omega)).trans c2, (h _ (by omega) (by omega)).trans c3, (h _ (by omega) (by omega)).trans c4, (h _ (by omega) (by omega)).trans c5, (h _ (by omega) (by omega)).trans c6, (h _ (by omega) (by omega)).trans c7, (h _ (by omega) (by omega)).trans c8, (h _ (by omega) (by omega)).trans c9, (h _ (by omega) (by omega)).trans c10⟩, hm1, hm2⟩
/-- Lines in a row; K: how their kids lie. -/
def LinesK (K : World → Nat → Option Addr → List Ex → Prop) (w : World) (B : Nat) (A : Option Addr) (xs : List St) : Prop :=
  xs = [] ∨ ∃ g off, A = some ⟨g, off, none⟩ ∧ g < B ∧ ∀ j (hj : j < xs.length), ∃ D1 m1 D2 m2, LineC w g (off + j * 11) xs[j] D1 m1 D2 m2 ∧ K w B D1 xs[j].e.kids ∧ K w B D2 xs[j].t.kids
def LinesAt := LinesK KidsAt
def LinesU := LinesK KidsU
theorem LinesK.keep {K : World → Nat → Option Addr → List Ex → Prop} {w w' : World} {B : Nat} {A : Option Addr} {xs : List St} (hK : ∀ D ks, K w B D ks → K w' B D ks) (h : LinesK K w B A xs) (hb : Below B w w') : LinesK K w' B A xs := by
  rcases h with h | ⟨g, off, h1, h2, h3⟩
  · exact .inl h
  · refine .inr ⟨g, off, h1, h2, fun j hj => ?_⟩
    obtain ⟨D1, m1, D2, m2, q1, q2, q3⟩ := h3 j hj
    exact ⟨D1, m1, D2, m2, q1.move (fun i _ _ => hb.cell (p := ⟨g, i, none⟩) h2), hK _ _ q2, hK _ _ q3⟩
theorem LinesAt.keep {w w' : World} {B : Nat} {A : Option Addr} {xs : List St} (h : LinesAt w B A xs) (hb : Below B w w') : LinesAt w' B A xs := LinesK.keep (fun _ _ h => h.keep hb) h hb
theorem LinesU.keep {w w' : World} {B : Nat} {A : Option Addr} {xs : List St} (h : LinesU w B A xs) (hb : Below B w w') : LinesU w' B A xs := LinesK.keep (fun _ _ h => h.keep hb) h hb
theorem LinesU.wide {w : World} {B C : Nat} {A : Option Addr} {xs : List St} (h : LinesU w B A xs) (hb : B ≤ C) : LinesU w C A xs := by
  rcases h with h | ⟨g, off, h1, h2, h3⟩
  · exact .inl h
  · refine .inr ⟨g, off, h1, by omega, fun j hj => ?_⟩
    obtain ⟨D1, m1, D2, m2, q1, q2, q3⟩ := h3 j hj
    exact ⟨D1, m1, D2, m2, q1, q2.wide hb, q3.wide hb⟩
theorem LinesU.lines {w : World} {B : Nat} {A : Option Addr} {xs : List St} (h : LinesU w B A xs) : LinesAt w B A xs := by
  rcases h with h | ⟨g, off, h1, h2, h3⟩
  · exact .inl h
  · refine .inr ⟨g, off, h1, h2, fun j hj => ?_⟩
    obtain ⟨D1, m1, D2, m2, q1, q2, q3⟩ := h3 j hj
    exact ⟨D1, m1, D2, m2, q1, q2.kids, q3.kids⟩
theorem LinesK.at_ {K : World → Nat → Option Addr → List Ex → Prop} {w : World} {B : Nat} {A : Option Addr} {xs : List St} (h : LinesK K w B A xs) {j : Nat} (hj : j < xs.length) :
    ∃ g off D1 m1 D2 m2, A = some ⟨g, off, none⟩ ∧ g < B ∧ LineC w g (off + j * 11) xs[j] D1 m1 D2 m2 ∧ K w B D1 xs[j].e.kids ∧ K w B D2 xs[j].t.kids := by
  rcases h with h | ⟨g, off, h1, h2, h3⟩
  · subst h; exact absurd hj (Nat.not_lt_zero _)
  · obtain ⟨D1, m1, D2, m2, q⟩ := h3 j hj
    exact ⟨g, off, D1, m1, D2, m2, h1, h2, q⟩
/-- Their weight: one more for each. -/
def stWts (xs : List St) : Nat := (xs.map (fun s => s.wt + 1)).sum
theorem stWts_take (xs : List St) (j : Nat) (h : j < xs.length) : stWts (xs.take (j + 1)) = stWts (xs.take j) + (xs[j].wt + 1) := by
  unfold stWts; rw [List.take_succ_eq_append_getElem h, List.map_append, List.sum_append]; simp
theorem stWts_mem {xs : List St} {s : St} (h : s ∈ xs) : s.wt + 1 ≤ stWts xs := by
  unfold stWts
  induction xs with
  | nil => cases h
  | cons x xs ih =>
    rw [List.map_cons, List.sum_cons]
    rcases List.mem_cons.1 h with rfl | h
    · omega
    · have := ih h; omega
theorem stWts_length (xs : List St) : xs.length ≤ stWts xs := by
  unfold stWts
  induction xs with
  | nil => simp
  | cons x xs ih => rw [List.map_cons, List.sum_cons, List.length_cons]; omega
def stFits (xs : List St) : Prop := ∀ s ∈ xs, s.fits
set_option linter.unusedVariables false in
set_option maxRecDepth 100000 in
set_option maxHeartbeats 4000000 in
theorem szStmtS_any (xs : List St) (A : Option Addr) (c B : Nat) (left : Int) (w : World) (hfit : stFits xs) (hm : xs.length ≤ maxLen) (hA : LinesAt w B A xs) (hB : B ≤ w.heap.size) (h0 : 0 ≤ left) (h1 : left ≤ 2 ^ 40) :
    Calls Tryz.prog 39 #[.slice A xs.length c, .int .i64 left] w (LeftE (stWts xs) left w) := by
  unfold maxLen at hm
  have HA := Lib.hid hA
  have HF := Lib.hid hfit
  clear hA hfit
  by_cases hbig : left < xs.length
  · have q1 : left - (xs.length : Int) < 0 := by omega
    go_enter Tryz.func39, Tryz.ntmps39
    go_wp2_with fail
    go_ret
    exact ⟨_, rfl, fun h => absurd h (by decide), by omega, Below.refl _ _⟩
  · have q1 : ¬ (left - (xs.length : Int) < 0) := by omega
    go_enter Tryz.func39, Tryz.ntmps39
    go_wp2_with fail
    go_loopw [1, 5] (fun d i wr => ∃ (j : Nat) (r : Int), j ≤ xs.length ∧ 0 ≤ r ∧ i = .int .i64 j ∧ d = .int .i64 r ∧ r + (stWts (xs.take j) : Int) + ((xs.length - j : Nat) : Int) = left ∧ Below w.heap.size w wr) (fun _ i _ => xs.length - (intOf i).toNat)
    case atStart => exact ⟨0, left - xs.length, Nat.zero_le _, by omega, rfl, rfl, by simp [stWts], Below.refl _ _⟩
    case round =>
      obtain ⟨j, r, hj, hr0, rfl, rfl, heq, hBw⟩ := hrel
      by_cases hlt : j < xs.length
      · obtain ⟨g, off, D1, m1, D2, m2, eA, hg, hC, hk1, hk2⟩ := LinesK.at_ (HA.out.keep (hBw.mono hB)) hlt
        subst eA
        have hts := stWts_take xs j hlt
        have hft := HF.out _ (List.getElem_mem hlt)
        have hrl : r ≤ left := by omega
        obtain ⟨⟨c0, c1, c2, c3, c4, c5, c6, c7, c8, c9, c10⟩, hm1, hm2⟩ := hC
        have HC := Lib.hid (szStmt_any xs[j] D1 D2 m1 m2 B r wr hft hk1 hk2 hm1 hm2 (Nat.le_trans hB hBw.size) hr0 (by omega))
        generalize xs[j] = x at *
        have HQ := Lib.hid heq
        have HTS := Lib.hid hts
        have hx : (j : Int) < (xs.length : Int) := by omega
        clear heq hts hk1 hk2 hft
        go_wp2_with fail
        refine HC.out.mono ?_
        rintro e w1 ⟨r1, rfl, hr1, hr1l, hb1⟩
        by_cases hneg : r1 < 0
        · go_wp2_with fail
          go_ret
          exact ⟨_, rfl, fun h => absurd h (by decide), by omega, hBw.trans (hb1.mono hBw.size)⟩
        · have HR := Lib.hid (hr1 (by omega))
          clear hr1 HC
          go_wp2_with fail
          go_roundw
          case rel => exact ⟨j + 1, r1, by omega, by omega, by go_num, rfl, by have := HQ.out; have := HTS.out; have := HR.out; omega, hBw.trans (hb1.mono hBw.size)⟩
          case measure => simp [intOf]; omega
      · have HQ := Lib.hid heq
        clear heq
        go_wp2_with fail
        go_ret
        refine ⟨r, rfl, fun _ => ?_, ?_, hBw⟩
        · have := HQ.out
          rw [List.take_of_length_le (by omega)] at this
          omega
        · have := HQ.out
          omega
/-- Kids in blocks of one's own, from this block on. -/
def OwnFrom (lo0 : Nat) (W : World) (e : Ex) (A : Option Addr) : Prop := ∃ lo hi, lo0 ≤ lo ∧ hi ≤ W.heap.size ∧ OwnE W e lo hi A
theorem OwnFrom.keep {lo0 : Nat} {W W' : World} {e : Ex} {A : Option Addr} (h : OwnFrom lo0 W e A) (hs : W.heap.size ≤ W'.heap.size) (hk : ∀ k, lo0 ≤ k → k < W.heap.size → W'.heap[k]? = W.heap[k]?) : OwnFrom lo0 W' e A := by
  obtain ⟨lo, hi, h1, h2, h4⟩ := h
  exact ⟨lo, hi, h1, by omega, own_keep _ _ _ _ (fun k q1 q2 => hk k (by omega) (by omega)) h4⟩
theorem OwnFrom.kids {lo0 : Nat} {W : World} {e : Ex} {A : Option Addr} (h : OwnFrom lo0 W e A) : KidsU W W.heap.size A e.kids := by
  obtain ⟨lo, hi, _, h2, h3⟩ := h
  exact own_kidsU e lo hi A _ h3 h2
/-- A row of cells set one behind the other: what was ahead is as it was. -/
theorem setAll_row (g : Nat) : ∀ (vs : List Value) (k : Nat) (cur : Array Value) (w : World), BlkS w g cur → k + vs.length ≤ cur.size →
    (∀ i, i < k → (setAll w g k vs).cell? ⟨g, i, none⟩ = w.cell? ⟨g, i, none⟩) ∧ (∀ i v, vs[i]? = some v → (setAll w g k vs).cell? ⟨g, k + i, none⟩ = some v) ∧ ∃ cur', BlkS (setAll w g k vs) g cur' ∧ cur'.size = cur.size := by
  intro vs
  induction vs with
  | nil => intro k cur w h _; exact ⟨fun _ _ => rfl, fun i v hv => by simp at hv, cur, h, rfl⟩
  | cons v vs ih =>
    intro k cur w h hl
    rw [List.length_cons] at hl
    have h1 := h.set k v
    obtain ⟨a1, a2, cur', a3, a4⟩ := ih (k + 1) _ _ h1 (by rw [Array.size_setIfInBounds]; omega)
    refine ⟨fun i hi => ?_, fun i u hu => ?_, cur', a3, by rw [a4, Array.size_setIfInBounds]⟩
    · rw [setAll, a1 i (by omega), h1.cell, h.cell, Array.getElem?_setIfInBounds_ne (by omega)]
    · cases i with
      | zero =>
        have e : v = u := by simpa using hu
        subst e
        exact (a1 k (by omega)).trans (by rw [h1.cell, Array.getElem?_setIfInBounds_self_of_lt (by omega)])
      | succ i =>
        have := a2 i u (by simpa using hu)
        rw [show k + (i + 1) = k + 1 + i by omega]
        exact this
def zeroSt : Array Value := #[.int .i64 0, .string ByteArray.empty, .string ByteArray.empty, .int .i64 0, .int .i64 0, .string ByteArray.empty, .slice none 0 0, .int .i64 0, .int .i64 0, .string ByteArray.empty, .slice none 0 0]
theorem infoSt : (Tryz.prog.info? 35).map (fun i => (i.zero, i.size)) = some (some (.agg zeroSt), 11) := by kernel_rfl
theorem bytesSt : (Tryz.prog.info? 35).map (fun i => decide (i.bytes ≤ 200)) = some true := by kernel_rfl
theorem run_makeSt (n : Nat) (hn : n ≤ 2 ^ 40) (w : World) : (Instr.makeSlice 64 (.int .i64 (n : Int)) (.int .i64 (n : Int))).run Tryz.prog w = .ok (.slice (some ⟨w.heap.size, 0, none⟩) n n) (w.alloc (.cells (madeCells zeroSt (n * 11)) 35)) := by
  obtain ⟨i, hi, hzz⟩ := Option.map_eq_some_iff.1 infoSt
  simp only [Prod.mk.injEq] at hzz
  obtain ⟨hz, hs⟩ := hzz
  have hb := bytesSt
  rw [hi] at hb
  have hb2 : i.bytes ≤ 200 := by simpa using hb
  have hbn : i.bytes * n ≤ 200 * 2 ^ 40 := Nat.mul_le_mul hb2 hn
  have hr := run_make (P := Tryz.prog) w 64 35 i _ Tryz.underlying64 hi hz .i64 .i64 n n (by omega) (Int.le_refl _) (by omega) (by omega)
  rw [hs] at hr
  simp only [Int.toNat_natCast] at hr
  exact hr
/-- A copy of the lines is handed back, in memory of its own. -/
def CopiesP (xs : List St) (w : World) (r : Ending) (w' : World) : Prop :=
  ∃ A c, r = .returned (.slice A xs.length c) ∧ xs.length ≤ c ∧ LinesU w' w'.heap.size A xs ∧ Below w.heap.size w w'
set_option linter.unusedVariables false in
set_option linter.unusedSimpArgs false in
set_option maxRecDepth 100000 in
set_option maxHeartbeats 8000000 in
theorem toStmtS_any (xs : List St) (A : Option Addr) (c B : Nat) (w : World) (hA : LinesAt w B A xs) (hB : B ≤ w.heap.size) (hw : stWts xs ≤ 2 ^ 29) :
    Calls Tryz.prog 41 #[.slice A xs.length c] w (CopiesP xs w) := by
  have hl : xs.length ≤ 2 ^ 29 := Nat.le_trans (stWts_length xs) hw
  have hmk := run_makeSt xs.length (by omega)
  have HA := Lib.hid hA
  have HW := Lib.hid (fun (s : St) (h : s ∈ xs) => Nat.le_trans (stWts_mem h) hw)
  clear hA hw
  go_enter Tryz.func41, Tryz.ntmps41
  go_wp2_with fail
  go_loopw [4] (fun i wr => ∃ j : Nat, j ≤ xs.length ∧ i = .int .i64 j ∧ (∃ cur, BlkS wr w.heap.size cur ∧ cur.size = xs.length * 11) ∧ Hid (∀ k (hk : k < xs.length), k < j → ∃ D1 m1 D2 m2, LineC wr w.heap.size (k * 11) xs[k] D1 m1 D2 m2 ∧ OwnFrom (w.heap.size + 1) wr xs[k].e D1 ∧ OwnFrom (w.heap.size + 1) wr xs[k].t D2) ∧ Below w.heap.size w wr)
    (fun i _ => xs.length - (intOf i).toNat)
  case atStart => exact ⟨0, Nat.zero_le _, rfl, ⟨_, World.alloc_heap_new w _, by rw [size_madeCells]⟩, Lib.hid (fun k _ hk => absurd hk (Nat.not_lt_zero _)), (Below.refl _ w).alloc (Nat.le_refl _) _⟩
  case round =>
    obtain ⟨j, hj, rfl, ⟨cur, hcur, hcs⟩, HOWN, hBw⟩ := hrel
    clear hmk
    by_cases hlt : j < xs.length
    · obtain ⟨g, off, D1, m1, D2, m2, eA, hg, hC, hk1, hk2⟩ := LinesK.at_ (HA.out.keep (hBw.mono hB)) hlt
      subst eA
      obtain ⟨⟨c0, c1, c2, c3, c4, c5, c6, c7, c8, c9, c10⟩, hm1, hm2⟩ := hC
      have HC := Lib.hid (toStmt_any xs[j] D1 D2 m1 m2 B wr hk1 hk2 hm1 hm2 (Nat.le_trans hB hBw.size) (by have := HW.out _ (List.getElem_mem hlt); omega))
      have HCU := Lib.hid hcur
      have hx : (j : Int) < (xs.length : Int) := by omega
      have hx2 : j * 11 + 11 ≤ cur.size := by omega
      have HJ := Lib.hid (show ∀ s, s = xs[j] → xs[j] = s from fun s h => h.symm)
      obtain ⟨x, hxj⟩ : ∃ x, x = xs[j] := ⟨_, rfl⟩
      have HXJ := Lib.hid hxj
      rw [← hxj] at HC c0 c1 c2 c3 c4 c5 c6 c7 c8 c9 c10 hm1 hm2
      clear hk1 hk2 hxj HJ hcur
      go_wp2_with fail
      refine HC.out.mono ?_
      rintro e w1 ⟨X1, k1, X2, k2, mid, rfl, hk1, hk2, hO1, hO2, hb1⟩
      have hcur1 : BlkS w1 w.heap.size cur := (hb1.block _ HCU.out.lt).trans HCU.out
      obtain ⟨v0, e0⟩ : ∃ v, w1.cell? ⟨w.heap.size, j * 11, none⟩ = some v := ⟨cur[j * 11]'(by omega), by rw [hcur1.cell, Array.getElem?_eq_getElem]⟩
      have f0 := hcur1.frozen (j * 11)
      obtain ⟨v1, e1⟩ : ∃ v, w1.cell? ⟨w.heap.size, j * 11 + 1, none⟩ = some v := ⟨cur[j * 11 + 1]'(by omega), by rw [hcur1.cell, Array.getElem?_eq_getElem]⟩
      have f1 := hcur1.frozen (j * 11 + 1)
      obtain ⟨v2, e2⟩ : ∃ v, w1.cell? ⟨w.heap.size, j * 11 + 2, none⟩ = some v := ⟨cur[j * 11 + 2]'(by omega), by rw [hcur1.cell, Array.getElem?_eq_getElem]⟩
      have f2 := hcur1.frozen (j * 11 + 2)
      obtain ⟨v3, e3⟩ : ∃ v, w1.cell? ⟨w.heap.size, j * 11 + 3, none⟩ = some v := ⟨cur[j * 11 + 3]'(by omega), by rw [hcur1.cell, Array.getElem?_eq_getElem]⟩
      have f3 := hcur1.frozen (j * 11 + 3)
      obtain ⟨v4, e4⟩ : ∃ v, w1.cell? ⟨w.heap.size, j * 11 + 4, none⟩ = some v := ⟨cur[j * 11 + 4]'(by omega), by rw [hcur1.cell, Array.getElem?_eq_getElem]⟩
      have f4 := hcur1.frozen (j * 11 + 4)
      obtain ⟨v5, e5⟩ : ∃ v, w1.cell? ⟨w.heap.size, j * 11 + 5, none⟩ = some v := ⟨cur[j * 11 + 5]'(by omega), by rw [hcur1.cell, Array.getElem?_eq_getElem]⟩
      have f5 := hcur1.frozen (j * 11 + 5)
      obtain ⟨v6, e6⟩ : ∃ v, w1.cell? ⟨w.heap.size, j * 11 + 6, none⟩ = some v := ⟨cur[j * 11 + 6]'(by omega), by rw [hcur1.cell, Array.getElem?_eq_getElem]⟩
      have f6 := hcur1.frozen (j * 11 + 6)
      obtain ⟨v7, e7⟩ : ∃ v, w1.cell? ⟨w.heap.size, j * 11 + 7, none⟩ = some v := ⟨cur[j * 11 + 7]'(by omega), by rw [hcur1.cell, Array.getElem?_eq_getElem]⟩
      have f7 := hcur1.frozen (j * 11 + 7)
      obtain ⟨v8, e8⟩ : ∃ v, w1.cell? ⟨w.heap.size, j * 11 + 8, none⟩ = some v := ⟨cur[j * 11 + 8]'(by omega), by rw [hcur1.cell, Array.getElem?_eq_getElem]⟩
      have f8 := hcur1.frozen (j * 11 + 8)
      obtain ⟨v9, e9⟩ : ∃ v, w1.cell? ⟨w.heap.size, j * 11 + 9, none⟩ = some v := ⟨cur[j * 11 + 9]'(by omega), by rw [hcur1.cell, Array.getElem?_eq_getElem]⟩
      have f9 := hcur1.frozen (j * 11 + 9)
      obtain ⟨v10, e10⟩ : ∃ v, w1.cell? ⟨w.heap.size, j * 11 + 10, none⟩ = some v := ⟨cur[j * 11 + 10]'(by omega), by rw [hcur1.cell, Array.getElem?_eq_getElem]⟩
      have f10 := hcur1.frozen (j * 11 + 10)
      have HC1 := Lib.hid hcur1
      have HO1 := Lib.hid hO1
      have HO2 := Lib.hid hO2
      have hlw := HCU.out.lt
      have hz1 := hb1.size
      clear hcur1 c0 c1 c2 c3 c4 c5 c6 c7 c8 c9 c10 HC hO1 hO2
      go_wp2_with fail
      go_roundw
      case rel =>
        obtain ⟨wn, hwn⟩ : ∃ wn, wn = (((((((((((w1.setCell ⟨w.heap.size, j * 11, none⟩ (.int .i64 x.kind)).setCell ⟨w.heap.size, j * 11 + 1, none⟩ (.string x.name)).setCell ⟨w.heap.size, j * 11 + 2, none⟩ (.string x.typ)).setCell ⟨w.heap.size, j * 11 + 3, none⟩ (.int .i64 x.e.kind)).setCell ⟨w.heap.size, j * 11 + 4, none⟩ (.int .i64 x.e.n)).setCell ⟨w.heap.size, j * 11 + 5, none⟩ (.string x.e.s)).setCell ⟨w.heap.size, j * 11 + 6, none⟩ (.slice X1 x.e.kids.length k1)).setCell ⟨w.heap.size, j * 11 + 7, none⟩ (.int .i64 x.t.kind)).setCell ⟨w.heap.size, j * 11 + 8, none⟩ (.int .i64 x.t.n)).setCell ⟨w.heap.size, j * 11 + 9, none⟩ (.string x.t.s)).setCell ⟨w.heap.size, j * 11 + 10, none⟩ (.slice X2 x.t.kids.length k2)) := ⟨_, rfl⟩
        have hwa : wn = setAll w1 w.heap.size (j * 11) [.int .i64 x.kind, .string x.name, .string x.typ, .int .i64 x.e.kind, .int .i64 x.e.n, .string x.e.s, .slice X1 x.e.kids.length k1, .int .i64 x.t.kind, .int .i64 x.t.n, .string x.t.s, .slice X2 x.t.kids.length k2] := by rw [hwn]; rfl
        rw [← hwn]
        clear hwn
        obtain ⟨hpre, hnew, cur', hcur', hcs'⟩ := setAll_row w.heap.size [.int .i64 x.kind, .string x.name, .string x.typ, .int .i64 x.e.kind, .int .i64 x.e.n, .string x.e.s, .slice X1 x.e.kids.length k1, .int .i64 x.t.kind, .int .i64 x.t.n, .string x.t.s, .slice X2 x.t.kids.length k2] (j * 11) cur w1 HC1.out (by simpa using hx2)
        rw [← hwa] at hpre hnew hcur'
        have hsame : ∀ b, b ≠ w.heap.size → wn.heap[b]? = w1.heap[b]? := fun b hb => by rw [hwa]; exact setAll_other _ _ _ _ hb
        have hsz : wn.heap.size = w1.heap.size := by rw [hwa]; exact setAll_size _ _ _ _
        have hos : wn.os = w1.os ∧ wn.tape = w1.tape ∧ wn.output = w1.output := by rw [hwa]; exact setAll_os _ _ _ _
        refine ⟨j + 1, by omega, by go_num, ⟨cur', hcur', by omega⟩, Lib.hid (fun k hk hkj => ?_), ?_⟩
        · by_cases hkj2 : k < j
          · obtain ⟨E1, n1, E2, n2, q1, q2, q3⟩ := HOWN.out k hk hkj2
            refine ⟨E1, n1, E2, n2, q1.move (fun i h1 h2 => (hpre i (by omega)).trans (World.cell?_of_block (a := ⟨w.heap.size, i, none⟩) (hb1.block _ hlw))), q2.keep (by omega) (fun b h1 h2 => (hsame b (by omega)).trans (hb1.block b h2)), q3.keep (by omega) (fun b h1 h2 => (hsame b (by omega)).trans (hb1.block b h2))⟩
          · obtain rfl : k = j := by omega
            rw [← HXJ.out]
            refine ⟨X1, k1, X2, k2, ⟨⟨hnew 0 _ rfl, hnew 1 _ rfl, hnew 2 _ rfl, hnew 3 _ rfl, hnew 4 _ rfl, hnew 5 _ rfl, hnew 6 _ rfl, hnew 7 _ rfl, hnew 8 _ rfl, hnew 9 _ rfl, hnew 10 _ rfl⟩, hk1, hk2⟩, ⟨wr.heap.size, mid, by omega, by have := own_le _ _ _ _ _ HO2.out; omega, own_keep _ _ _ _ (fun b h1 h2 => hsame b (by omega)) HO1.out⟩, ⟨mid, w1.heap.size, by have := own_le _ _ _ _ _ HO1.out; omega, by omega, own_keep _ _ _ _ (fun b h1 h2 => hsame b (by have := own_le _ _ _ _ _ HO1.out; omega)) HO2.out⟩⟩
        · exact (hBw.trans (hb1.mono hBw.size)).trans ⟨hos.1, hos.2.1, hos.2.2, by omega, fun b hb => hsame b (by omega)⟩
      case measure => simp [intOf]; omega
    · have HCU := Lib.hid hcur
      clear hcur
      go_wp2_with fail
      go_ret
      refine ⟨_, _, rfl, Nat.le_refl _, .inr ⟨w.heap.size, 0, rfl, HCU.out.lt, fun k hk => ?_⟩, hBw⟩
      obtain ⟨E1, n1, E2, n2, q1, q2, q3⟩ := HOWN.out k hk (by omega)
      exact ⟨E1, n1, E2, n2, by rw [Nat.zero_add]; exact q1, q2.kids, q3.kids⟩
set_option linter.unusedVariables false in
set_option maxRecDepth 100000 in
set_option maxHeartbeats 8000000 in
theorem eqStmtS_same (xs : List St) (A A2 : Option Addr) (c c2 B : Nat) (w : World) (hA : LinesAt w B A xs) (hA2 : LinesAt w B A2 xs) (hB : B ≤ w.heap.size) (hw : stWts xs ≤ 2 ^ 29) :
    Calls Tryz.prog 43 #[.slice A xs.length c, .slice A2 xs.length c2] w fun r w' => r = .returned (.bool true) ∧ Below w.heap.size w w' := by
  have hl : xs.length ≤ 2 ^ 29 := Nat.le_trans (stWts_length xs) hw
  have HA := Lib.hid hA
  have HA2 := Lib.hid hA2
  have HW := Lib.hid (fun (s : St) (h : s ∈ xs) => Nat.le_trans (stWts_mem h) hw)
  have q0 : ((xs.length : Int) != (xs.length : Int)) = false := by simp
  clear hA hA2 hw
  go_enter Tryz.func43, Tryz.ntmps43
  go_wp2_with fail
  go_loopw [5] (fun i wr => ∃ j : Nat, j ≤ xs.length ∧ i = .int .i64 j ∧ Below w.heap.size w wr) (fun i _ => xs.length - (intOf i).toNat)
  case atStart => exact ⟨0, Nat.zero_le _, rfl, Below.refl _ _⟩
  case round =>
    obtain ⟨j, hj, rfl, hBw⟩ := hrel
    by_cases hlt : j < xs.length
    · obtain ⟨g, off, D1, m1, D2, m2, eA, hg, hC, hk1, hk2⟩ := LinesK.at_ (HA.out.keep (hBw.mono hB)) hlt
      obtain ⟨g2, off2, E1, n1, E2, n2, eA2, hg2, hC2, hk3, hk4⟩ := LinesK.at_ (HA2.out.keep (hBw.mono hB)) hlt
      subst eA eA2
      obtain ⟨⟨c0, c1, c2, c3, c4, c5, c6, c7, c8, c9, c10⟩, hm1, hm2⟩ := hC
      obtain ⟨⟨b0, b1, b2, b3, b4, b5, b6, b7, b8, b9, b10⟩, hn1, hn2⟩ := hC2
      have hBr := Nat.le_trans hB hBw.size
      have HC := Lib.hid (fun (V : World) (hV : Below wr.heap.size wr V) => eqStmt_same xs[j] D1 D2 E1 E2 m1 m2 n1 n2 B V (hk1.keep (hV.mono hBr)) (hk2.keep (hV.mono hBr)) (hk3.keep (hV.mono hBr)) (hk4.keep (hV.mono hBr)) hm1 hm2 hn1 hn2 (Nat.le_trans hBr hV.size) (by have := HW.out _ (List.getElem_mem hlt); omega))
      have hgl : g < wr.heap.size := by omega
      have hgl2 : g2 < wr.heap.size := by omega
      have hx : (j : Int) < (xs.length : Int) := by omega
      generalize xs[j] = x at *
      clear hk1 hk2 hk3 hk4 hm1 hm2 hn1 hn2
      go_wp2_with fail
      go_region_held3 (fun w' => w'.cell? ⟨g, off + j * 11, none⟩ = some (.int .i64 x.kind) ∧ w'.cell? ⟨g, off + j * 11 + 1, none⟩ = some (.string x.name) ∧ w'.cell? ⟨g, off + j * 11 + 2, none⟩ = some (.string x.typ) ∧ w'.cell? ⟨g, off + j * 11 + 3, none⟩ = some (.int .i64 x.e.kind) ∧ w'.cell? ⟨g, off + j * 11 + 4, none⟩ = some (.int .i64 x.e.n) ∧ w'.cell? ⟨g, off + j * 11 + 5, none⟩ = some (.string x.e.s) ∧ w'.cell? ⟨g, off + j * 11 + 6, none⟩ = some (.slice D1 x.e.kids.length m1) ∧ w'.cell? ⟨g, off + j * 11 + 7, none⟩ = some (.int .i64 x.t.kind) ∧ w'.cell? ⟨g, off + j * 11 + 8, none⟩ = some (.int .i64 x.t.n) ∧ w'.cell? ⟨g, off + j * 11 + 9, none⟩ = some (.string x.t.s) ∧ w'.cell? ⟨g, off + j * 11 + 10, none⟩ = some (.slice D2 x.t.kids.length m2) ∧ w'.cell? ⟨g2, off2 + j * 11, none⟩ = some (.int .i64 x.kind) ∧ w'.cell? ⟨g2, off2 + j * 11 + 1, none⟩ = some (.string x.name) ∧ w'.cell? ⟨g2, off2 + j * 11 + 2, none⟩ = some (.string x.typ) ∧ w'.cell? ⟨g2, off2 + j * 11 + 3, none⟩ = some (.int .i64 x.e.kind) ∧ w'.cell? ⟨g2, off2 + j * 11 + 4, none⟩ = some (.int .i64 x.e.n) ∧ w'.cell? ⟨g2, off2 + j * 11 + 5, none⟩ = some (.string x.e.s) ∧ w'.cell? ⟨g2, off2 + j * 11 + 6, none⟩ = some (.slice E1 x.e.kids.length n1) ∧ w'.cell? ⟨g2, off2 + j * 11 + 7, none⟩ = some (.int .i64 x.t.kind) ∧ w'.cell? ⟨g2, off2 + j * 11 + 8, none⟩ = some (.int .i64 x.t.n) ∧ w'.cell? ⟨g2, off2 + j * 11 + 9, none⟩ = some (.string x.t.s) ∧ w'.cell? ⟨g2, off2 + j * 11 + 10, none⟩ = some (.slice E2 x.t.kids.length n2) ∧ Below wr.heap.size wr w')
        (first | exact ⟨c0, c1, c2, c3, c4, c5, c6, c7, c8, c9, c10, b0, b1, b2, b3, b4, b5, b6, b7, b8, b9, b10, (Below.refl _ wr).drew⟩ | exact ⟨(hb2.cell (p := ⟨g, off + j * 11, none⟩) hgl).trans c0, (hb2.cell (p := ⟨g, off + j * 11 + 1, none⟩) hgl).trans c1, (hb2.cell (p := ⟨g, off + j * 11 + 2, none⟩) hgl).trans c2, (hb2.cell (p := ⟨g, off + j * 11 + 3, none⟩) hgl).trans c3, (hb2.cell (p := ⟨g, off + j * 11 + 4, none⟩) hgl).trans c4, (hb2.cell (p := ⟨g, off + j * 11 + 5, none⟩) hgl).trans c5, (hb2.cell (p := ⟨g, off + j * 11 + 6, none⟩) hgl).trans c6, (hb2.cell (p := ⟨g, off + j * 11 + 7, none⟩) hgl).trans c7, (hb2.cell (p := ⟨g, off + j * 11 + 8, none⟩) hgl).trans c8, (hb2.cell (p := ⟨g, off + j * 11 + 9, none⟩) hgl).trans c9, (hb2.cell (p := ⟨g, off + j * 11 + 10, none⟩) hgl).trans c10, (hb2.cell (p := ⟨g2, off2 + j * 11, none⟩) hgl2).trans b0, (hb2.cell (p := ⟨g2, off2 + j * 11 + 1, none⟩) hgl2).trans b1, (hb2.cell (p := ⟨g2, off2 + j * 11 + 2, none⟩) hgl2).trans b2, (hb2.cell (p := ⟨g2, off2 + j * 11 + 3, none⟩) hgl2).trans b3, (hb2.cell (p := ⟨g2, off2 + j * 11 + 4, none⟩) hgl2).trans b4, (hb2.cell (p := ⟨g2, off2 + j * 11 + 5, none⟩) hgl2).trans b5, (hb2.cell (p := ⟨g2, off2 + j * 11 + 6, none⟩) hgl2).trans b6, (hb2.cell (p := ⟨g2, off2 + j * 11 + 7, none⟩) hgl2).trans b7, (hb2.cell (p := ⟨g2, off2 + j * 11 + 8, none⟩) hgl2).trans b8, (hb2.cell (p := ⟨g2, off2 + j * 11 + 9, none⟩) hgl2).trans b9, (hb2.cell (p := ⟨g2, off2 + j * 11 + 10, none⟩) hgl2).trans b10, hb2⟩)
        (first | (go_at_call 36; refine (HC.out _ (Below.refl _ wr).drew).mono ?_; rintro e w2 ⟨rfl, hb2'⟩; have hb2 : Below wr.heap.size wr w2 := (Below.refl _ wr).drew.trans hb2'))
      rename_i hh
      go_wp2_with fail
      go_roundw
      case rel => exact ⟨j + 1, by omega, by go_num, hBw.trans (hb2.mono hBw.size)⟩
      case measure => simp [intOf]; omega
    · go_wp2_with fail
      go_ret
      exact ⟨rfl, hBw⟩
end Go.Proofs.YtfknelkbdoiokaaGreatDoor
