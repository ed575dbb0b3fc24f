/-
  Lists of Seg in memory, the contracts of the helpers of the exact laws over them, and when two lists are one.
-/
import Derived.Test.YtdkliboehdohdaaBase
import Derived.Laws.StructEq
namespace Go.Proofs.Ytdkliboehdohdaa
open Go.RowKit

/-- A Seg as Go holds it: the place that it is at, and the one that it came from. -/
abbrev Sg := Int × Int × Int × Int
def sgC (x : Sg) : List Value := [.int .i64 x.1, .int .i64 x.2.1, .int .i64 x.2.2.1, .int .i64 x.2.2.2]
def rowG (xs : List Sg) : List Value := xs.flatMap sgC
theorem rowG_length (xs : List Sg) : (rowG xs).length = xs.length * 4 := by
  induction xs with
  | nil => rfl
  | cons x xs ih => simp [rowG, sgC] at ih ⊢; omega
theorem rowG_append (xs ys : List Sg) : rowG (xs ++ ys) = rowG xs ++ rowG ys := by simp [rowG]
theorem rowG_cons (x : Sg) (xs : List Sg) : rowG (x :: xs) = sgC x ++ rowG xs := by simp [rowG]
theorem rowG_get (xs : List Sg) : ∀ (k : Nat) (hk : k < xs.length) (i : Nat), i < 4 → (rowG xs)[k * 4 + i]? = (sgC xs[k])[i]? := by
  induction xs with
  | nil => intro k hk; simp at hk
  | cons x xs ih =>
    intro k hk i hi
    rw [rowG_cons]
    cases k with
    | zero =>
      rw [Nat.zero_mul, Nat.zero_add, List.getElem?_append_left (by simpa [sgC] using hi)]
      rfl
    | succ k =>
      rw [List.getElem?_append_right (by simp [sgC]; omega), show (k + 1) * 4 + i - (sgC x).length = k * 4 + i by simp [sgC]; omega]
      exact ih k (by simpa using hk) i hi

theorem rowG_set (ys : List Sg) : ∀ (k : Nat) (x : Sg), k < ys.length → ((((rowG ys).set (k * 4) (.int .i64 x.1)).set (k * 4 + 1) (.int .i64 x.2.1)).set (k * 4 + 2) (.int .i64 x.2.2.1)).set (k * 4 + 3) (.int .i64 x.2.2.2) = rowG (ys.set k x) := by
  induction ys with
  | nil => intro k x h; simp at h
  | cons y ys ih =>
    intro k x h
    cases k with
    | zero => rfl
    | succ k =>
      rw [rowG_cons, List.set_cons_succ, rowG_cons, ← ih k x (by simpa using h), show (k + 1) * 4 = (sgC y).length + k * 4 by simp [sgC]; omega]
      rw [show (sgC y).length + k * 4 + 1 = (sgC y).length + (k * 4 + 1) by omega, show (sgC y).length + k * 4 + 2 = (sgC y).length + (k * 4 + 2) by omega, show (sgC y).length + k * 4 + 3 = (sgC y).length + (k * 4 + 3) by omega]
      rw [List.set_append_right _ _ (by omega), List.set_append_right _ _ (by omega), List.set_append_right _ _ (by omega), List.set_append_right _ _ (by omega)]
      simp only [Nat.add_sub_cancel_left]

/-- The four cells of the Seg at place k. -/
theorem SlIs.seg {w : World} {A : Option Addr} {xs : List Sg} (h : SlIs w A (rowG xs)) {k : Nat} (hk : k < xs.length) :
    ∃ g off, A = some ⟨g, off, none⟩ ∧ g < w.heap.size ∧ w.cell? ⟨g, off + k * 4, none⟩ = some (.int .i64 xs[k].1) ∧ w.cell? ⟨g, off + k * 4 + 1, none⟩ = some (.int .i64 xs[k].2.1) ∧ w.cell? ⟨g, off + k * 4 + 2, none⟩ = some (.int .i64 xs[k].2.2.1) ∧ w.cell? ⟨g, off + k * 4 + 3, none⟩ = some (.int .i64 xs[k].2.2.2) := by
  have hl := rowG_length xs
  rcases h with h | ⟨g, off, e, hg, hc⟩
  · rw [h] at hl; simp at hl; omega
  · have g0 := rowG_get xs k hk 0 (by omega)
    have g1 := rowG_get xs k hk 1 (by omega)
    have g2 := rowG_get xs k hk 2 (by omega)
    have g3 := rowG_get xs k hk 3 (by omega)
    refine ⟨g, off, e, hg, hc _ _ g0, ?_, ?_, ?_⟩
    · rw [Nat.add_assoc]; exact hc _ _ g1
    · rw [Nat.add_assoc]; exact hc _ _ g2
    · rw [Nat.add_assoc]; exact hc _ _ g3
theorem SlIs.ownG {w : World} {base : Nat} {e : TypeId} {sz : Nat} {A : Option Addr} {n c : Nat} {xs : List Value} (h : w.ownsRow base e sz (.slice A n c) n xs) : SlIs w A xs := by
  rcases h.2 with ⟨hv, hn⟩ | ⟨g, cap, cur, hv, hb, hg, hnc, hcm, hcs, htake⟩
  · exact .inl (List.eq_nil_of_length_eq_zero (by rw [h.1, hn]; simp))
  · injection hv with h1 h2 h3
    subst h1
    refine .inr ⟨g, 0, rfl, (Array.getElem?_eq_some_iff.1 hg).1, fun j u hu => ?_⟩
    rw [← htake, List.getElem?_take] at hu
    split at hu
    · simp only [World.cell?, hg, Nat.zero_add]
      simpa using hu
    · cases hu
theorem own_sliceG {w : World} {base : Nat} {e : TypeId} {sz : Nat} {v : Value} {n : Nat} {xs : List Value} (h : w.ownsRow base e sz v n xs) : ∃ A c, v = .slice A n c ∧ n ≤ c := by
  rcases h.2 with ⟨rfl, rfl⟩ | ⟨g, cap, _, rfl, _, _, hc, _⟩
  · exact ⟨none, 0, rfl, Nat.le_refl _⟩
  · exact ⟨_, cap, rfl, hc⟩

def eqSg (x y : Sg) : Bool := (x.1 == y.1 && x.2.1 == y.2.1) && (x.2.2.1 == y.2.2.1 && x.2.2.2 == y.2.2.2)
theorem eqSg_iff (x y : Sg) : eqSg x y = true ↔ x = y := by
  obtain ⟨a, b, c, d⟩ := x
  obtain ⟨a', b', c', d'⟩ := y
  simp only [eqSg, Bool.and_eq_true, beq_iff_eq, Prod.mk.injEq]
  constructor
  · rintro ⟨⟨rfl, rfl⟩, rfl, rfl⟩; exact ⟨rfl, rfl, rfl, rfl⟩
  · rintro ⟨rfl, rfl, rfl, rfl⟩; exact ⟨⟨rfl, rfl⟩, rfl, rfl⟩

theorem eqInPos (n : Nat) (a b a' b' : Int) (w : World) : (Op.equalIn (n + 2) 31 (.agg #[.int .i64 a, .int .i64 b]) (.agg #[.int .i64 a', .int .i64 b'])).run Try.prog w = .ok (a == a' && b == b') w := by
  have u3 := Try.underlying3
  have a3 := Try.isAgg3
  have z3 := Try.sizeOf3
  have hS : Try.prog.underlying 31 = some (.struct (Try.prog.fieldsOf 31)) := by kernel_rfl
  have hp : Try.prog.stoodInHeld 31 = false := by kernel_rfl
  rw [run_equalIn_agg w (n + 1) 31 _ _ hS hp]
  simp only [Program.fieldsOf, Try.underlying31]
  go_simp
  by_cases h1 : a = a' <;> by_cases h2 : b = b' <;> simp [h1, h2]
theorem eqInSeg (n : Nat) (a b c d a' b' c' d' : Int) (w : World) : (Op.equalIn (n + 3) 46 (.agg #[.int .i64 a, .int .i64 b, .int .i64 c, .int .i64 d]) (.agg #[.int .i64 a', .int .i64 b', .int .i64 c', .int .i64 d'])).run Try.prog w = .ok (eqSg (a, b, c, d) (a', b', c', d')) w := by
  have hP := eqInPos n
  have ap := Try.isAgg31
  have zp := Try.sizeOf31
  have hS : Try.prog.underlying 46 = some (.struct (Try.prog.fieldsOf 46)) := by kernel_rfl
  have hp : Try.prog.stoodInHeld 46 = false := by kernel_rfl
  rw [run_equalIn_agg w (n + 2) 46 _ _ hS hp]
  simp only [Program.fieldsOf, Try.underlying46]
  go_simp
  by_cases h1 : a = a' <;> by_cases h2 : b = b' <;> by_cases h3 : c = c' <;> by_cases h4 : d = d' <;> simp [eqSg, h1, h2, h3, h4]
theorem neqSeg (a b c d a' b' c' d' : Int) (w : World) : Sem.run Try.prog (binOp .neq 46 (.agg #[.int .i64 a, .int .i64 b, .int .i64 c, .int .i64 d]) (.agg #[.int .i64 a', .int .i64 b', .int .i64 c', .int .i64 d'])) w = .ok (.bool (!eqSg (a, b, c, d) (a', b', c', d'))) w := by
  rw [run_neq_struct, show (10000 : Nat) = 9997 + 3 from rfl, eqInSeg 9997]
  rfl
theorem eqlSeg (a b c d a' b' c' d' : Int) (w : World) : Sem.run Try.prog (binOp .eql 46 (.agg #[.int .i64 a, .int .i64 b, .int .i64 c, .int .i64 d]) (.agg #[.int .i64 a', .int .i64 b', .int .i64 c', .int .i64 d'])) w = .ok (.bool (eqSg (a, b, c, d) (a', b', c', d'))) w := by
  rw [run_eql_struct, show (10000 : Nat) = 9997 + 3 from rfl, eqInSeg 9997]
  rfl
theorem guardSeg (op : BinOp) (x y : Operand) (xs ys : Array Value) (w : World) : Sem.run Try.prog (eqGuard op 46 x y (.agg xs) (.agg ys)) w = .ok () w := run_eqGuard_agg w op _ x y xs ys (by kernel_rfl)
theorem eqPos_same (a b : Int) (w : World) :
    Calls Try.prog 15 #[.agg #[.int .i64 a, .int .i64 b], .agg #[.int .i64 a, .int .i64 b]] w fun e w' => e = .returned (.bool true) ∧ Below w.heap.size w w' := by
  have q1 : (a != a) = false := by simp
  have q2 : (b != b) = false := by simp
  go_enter Try.func15, Try.ntmps15
  go_wp2
  go_ret
  exact ⟨rfl, ((Below.refl _ w).alloc (Nat.le_refl _) _).alloc (by simp) _⟩
theorem cell_new1 (w : World) (cs : Array Value) (t : TypeId) (j : Nat) (v : Value) (h : cs[j]? = some v) : (w.alloc (.cells cs t)).cell? ⟨w.heap.size, j, none⟩ = some v := by
  have := World.alloc_heap_new w (.cells cs t)
  simp only [World.cell?, this]
  simpa using h
theorem cell_new2a (w : World) (cs ds : Array Value) (t u : TypeId) (j : Nat) (v : Value) (h : cs[j]? = some v) : ((w.alloc (.cells cs t)).alloc (.cells ds u)).cell? ⟨w.heap.size, j, none⟩ = some v :=
  (World.cell?_of_block (a := ⟨w.heap.size, j, none⟩) (Below.heap_alloc _ _ _ (by simp))).trans (cell_new1 w cs t j v h)
theorem cell_new2b (w : World) (cs ds : Array Value) (t u : TypeId) (j : Nat) (v : Value) (h : ds[j]? = some v) : ((w.alloc (.cells cs t)).alloc (.cells ds u)).cell? ⟨w.heap.size + 1, j, none⟩ = some v := by
  have := cell_new1 (w.alloc (.cells cs t)) ds u j v h
  rwa [World.size_alloc] at this
set_option maxHeartbeats 400000 in
theorem eqSeg_same (a b c d : Int) (w : World) :
    Calls Try.prog 34 #[.agg #[.int .i64 a, .int .i64 b, .int .i64 c, .int .i64 d], .agg #[.int .i64 a, .int .i64 b, .int .i64 c, .int .i64 d]] w fun e w' => e = .returned (.bool true) ∧ Below w.heap.size w w' := by
  obtain ⟨W0, hW0⟩ : ∃ W0, W0 = (w.alloc (.cells #[.int .i64 a, .int .i64 b, .int .i64 c, .int .i64 d] 46)).alloc (.cells #[.int .i64 a, .int .i64 b, .int .i64 c, .int .i64 d] 46) := ⟨_, rfl⟩
  have hb0 : Below w.heap.size w W0 := by rw [hW0]; exact ((Below.refl _ w).alloc (Nat.le_refl _) _).alloc (by simp) _
  have hs0 : w.heap.size + 1 < W0.heap.size := by rw [hW0]; simp
  have a0 : W0.cell? ⟨w.heap.size, 2, none⟩ = some (.int .i64 c) := by rw [hW0]; exact cell_new2a w _ _ _ _ 2 _ rfl
  have a1 : W0.cell? ⟨w.heap.size, 3, none⟩ = some (.int .i64 d) := by rw [hW0]; exact cell_new2a w _ _ _ _ 3 _ rfl
  have b0 : W0.cell? ⟨w.heap.size + 1, 2, none⟩ = some (.int .i64 c) := by rw [hW0]; exact cell_new2b w _ _ _ _ 2 _ rfl
  have b1 : W0.cell? ⟨w.heap.size + 1, 3, none⟩ = some (.int .i64 d) := by rw [hW0]; exact cell_new2b w _ _ _ _ 3 _ rfl
  have HA := Lib.hid (eqPos_same a b)
  have HB := Lib.hid (eqPos_same c d)
  go_enter Try.func34, Try.ntmps34
  go_wp2_with fail
  rw [← hW0]
  clear hW0
  refine (HA.out _).mono ?_
  rintro e w1 ⟨rfl, hb1⟩
  have x0 := (hb1.cell (p := ⟨w.heap.size, 2, none⟩) (by show w.heap.size < _; omega)).trans a0
  have x1 := (hb1.cell (p := ⟨w.heap.size, 3, none⟩) (by show w.heap.size < _; omega)).trans a1
  have y0 := (hb1.cell (p := ⟨w.heap.size + 1, 2, none⟩) hs0).trans b0
  have y1 := (hb1.cell (p := ⟨w.heap.size + 1, 3, none⟩) hs0).trans b1
  clear a0 a1 b0 b1
  go_wp2_with fail
  refine (HB.out _).mono ?_
  rintro e w2 ⟨rfl, hb2⟩
  have hb12 := hb1.trans (hb2.mono hb1.size)
  go_wp2_with fail
  go_ret
  exact ⟨rfl, hb0.trans (hb12.mono hb0.size)⟩
theorem toPos_any (a b : Int) (w : World) :
    Calls Try.prog 13 #[.agg #[.int .i64 a, .int .i64 b]] w fun e w' => e = .returned (.agg #[.int .i64 a, .int .i64 b]) ∧ Below w.heap.size w w' := by
  go_enter Try.func13, Try.ntmps13
  go_wp2
  exact bodyPost_ret (v := .agg #[.int .i64 a, .int .i64 b]) (by simp [results, Try.results13, go_sem]) rfl ⟨rfl, ((((Below.refl _ w).alloc (Nat.le_refl _) _).alloc (by simp) _).alloc (by simp; omega) _)⟩
def BlkG (w : World) (g : Nat) (cur : Array Value) (t : TypeId) : Prop := w.heap[g]? = some (.cells cur t (0, 0))
theorem BlkG.lt {w : World} {g : Nat} {cur : Array Value} {t : TypeId} (h : BlkG w g cur t) : g < w.heap.size := (Array.getElem?_eq_some_iff.1 h).1
theorem BlkG.cell {w : World} {g : Nat} {cur : Array Value} {t : TypeId} (h : BlkG w g cur t) (i : Nat) : w.cell? ⟨g, i, none⟩ = cur[i]? := by simp [World.cell?, show w.heap[g]? = _ from h]
theorem BlkG.frozen {w : World} {g : Nat} {cur : Array Value} {t : TypeId} (h : BlkG w g cur t) (i : Nat) : w.frozen? ⟨g, i, none⟩ = false := by simp [World.frozen?, show w.heap[g]? = _ from h]
theorem BlkG.set {w : World} {g : Nat} {cur : Array Value} {t : TypeId} (h : BlkG w g cur t) (i : Nat) (v : Value) : BlkG (w.setCell ⟨g, i, none⟩ v) g (cur.setIfInBounds i v) t := heap_setCell_same w g i cur _ v h
theorem BlkG.stay {w w' : World} {g : Nat} {cur : Array Value} {t : TypeId} (h : BlkG w g cur t) (hb : w'.heap[g]? = w.heap[g]?) : BlkG w' g cur t := hb.trans h
theorem blkG_new (w : World) (cur : Array Value) (t : TypeId) : BlkG (w.alloc (.cells cur t)) w.heap.size cur t := World.alloc_heap_new w _
set_option linter.unusedSimpArgs false in
set_option maxHeartbeats 1000000 in
theorem toSeg_any (a b c d : Int) (w : World) :
    Calls Try.prog 27 #[.agg #[.int .i64 a, .int .i64 b, .int .i64 c, .int .i64 d]] w fun e w' => e = .returned (.agg #[.int .i64 a, .int .i64 b, .int .i64 c, .int .i64 d]) ∧ Below w.heap.size w w' := by
  have HA := Lib.hid (toPos_any a b)
  have HB := Lib.hid (toPos_any c d)
  obtain ⟨W0, hW0⟩ : ∃ W0, W0 = ((w.alloc (.cells #[.int .i64 a, .int .i64 b, .int .i64 c, .int .i64 d] 50)).alloc (.cells #[.int .i64 0, .int .i64 0, .int .i64 0, .int .i64 0] 46)).alloc (.cells #[.int .i64 0, .int .i64 0, .int .i64 0, .int .i64 0] 46) := ⟨_, rfl⟩
  have hb0 : Below w.heap.size w W0 := by rw [hW0]; exact (((Below.refl _ w).alloc (Nat.le_refl _) _).alloc (by simp) _).alloc (by simp; omega) _
  have hs0 : W0.heap.size = w.heap.size + 1 + 1 + 1 := by rw [hW0]; simp
  have hA0 : BlkG W0 w.heap.size #[.int .i64 a, .int .i64 b, .int .i64 c, .int .i64 d] 50 := by
    rw [hW0]
    exact ((blkG_new w _ _).stay (Below.heap_alloc _ _ _ (by simp))).stay (Below.heap_alloc _ _ _ (by simp; omega))
  have hR0 : BlkG W0 (w.heap.size + 1) #[.int .i64 0, .int .i64 0, .int .i64 0, .int .i64 0] 46 := by
    have := blkG_new (w.alloc (.cells #[.int .i64 a, .int .i64 b, .int .i64 c, .int .i64 d] 50)) #[.int .i64 0, .int .i64 0, .int .i64 0, .int .i64 0] 46
    rw [World.size_alloc] at this
    rw [hW0]
    exact this.stay (Below.heap_alloc _ _ _ (by simp))
  have hO0 : BlkG W0 (w.heap.size + 1 + 1) #[.int .i64 0, .int .i64 0, .int .i64 0, .int .i64 0] 46 := by
    have := blkG_new ((w.alloc (.cells #[.int .i64 a, .int .i64 b, .int .i64 c, .int .i64 d] 50)).alloc (.cells #[.int .i64 0, .int .i64 0, .int .i64 0, .int .i64 0] 46)) #[.int .i64 0, .int .i64 0, .int .i64 0, .int .i64 0] 46
    rw [World.size_alloc, World.size_alloc] at this
    rw [hW0]
    exact this
  have HA0 := Lib.hid hA0
  have HR0 := Lib.hid hR0
  have HO0 := Lib.hid hO0
  clear hA0 hR0 hO0
  go_enter Try.func27, Try.ntmps27
  go_wp2_with fail
  rw [← hW0]
  clear hW0
  refine (HA.out _).mono ?_
  rintro e w1 ⟨rfl, hb1⟩
  have hz1 := hb1.size
  have HA1 := Lib.hid (HA0.out.stay (hb1.block _ HA0.out.lt))
  have HR1 := Lib.hid (HR0.out.stay (hb1.block _ HR0.out.lt))
  have HO1 := Lib.hid (HO0.out.stay (hb1.block _ HO0.out.lt))
  obtain ⟨V1, hV1⟩ : ∃ V1, V1 = (w1.setCell ⟨w.heap.size + 1 + 1, 0, none⟩ (.int .i64 a)).setCell ⟨w.heap.size + 1 + 1, 1, none⟩ (.int .i64 b) := ⟨_, rfl⟩
  have hsame : ∀ k, k ≠ w.heap.size + 1 + 1 → V1.heap[k]? = w1.heap[k]? := fun k hk => by rw [hV1]; rw [Below.heap_setCell _ _ _ k hk, Below.heap_setCell _ _ _ k hk]
  have HO2 := Lib.hid (show BlkG V1 (w.heap.size + 1 + 1) #[.int .i64 a, .int .i64 b, .int .i64 0, .int .i64 0] 46 by rw [hV1]; exact (HO1.out.set 0 _).set 1 _)
  have HA2 := Lib.hid (HA1.out.stay (hsame _ (by omega)))
  have HR2 := Lib.hid (HR1.out.stay (hsame _ (by omega)))
  have e0 := HO1.out.cell 0
  have e1 := HO1.out.cell 1
  have f0 := HO1.out.frozen 0
  have f1 := HO1.out.frozen 1
  have x2 := HA2.out.cell 2
  have x3 := HA2.out.cell 3
  simp only [List.getElem?_toArray, List.getElem?_cons_zero, List.getElem?_cons_succ] at e0 e1 x2 x3
  have hzV : V1.heap.size = w1.heap.size := by rw [hV1]; simp
  have HbV := Lib.hid (show Below w.heap.size w V1 from (hb0.trans (hb1.mono hb0.size)).trans ⟨by rw [hV1]; rfl, by rw [hV1]; rfl, by rw [hV1]; rfl, by omega, fun k hk => hsame k (by omega)⟩)
  have HsV := Lib.hid (show w.heap.size + 1 + 1 + 1 ≤ V1.heap.size by omega)
  clear hsame hb0 hb1 hs0 hz1 hzV
  rw [hV1] at x2 x3
  go_wp2_with fail
  rw [← hV1]
  clear hV1 x2 x3 e0 e1 f0 f1
  refine (HB.out _).mono ?_
  rintro e w2 ⟨rfl, hb2⟩
  have HbW := Lib.hid (HbV.out.trans (hb2.mono HbV.out.size))
  have hz2 := hb2.size
  have hR3 := HR2.out.stay (hb2.block _ HR2.out.lt)
  have hO3 := HO2.out.stay (hb2.block _ HO2.out.lt)
  have e0 := hO3.cell 0
  have e1 := hO3.cell 1
  have e2 := hO3.cell 2
  have e3 := hO3.cell 3
  have f2 := hO3.frozen 2
  have f3 := hO3.frozen 3
  have r0 := hR3.cell 0
  have r1 := hR3.cell 1
  have r2 := hR3.cell 2
  have r3 := hR3.cell 3
  have g0 := hR3.frozen 0
  have g1 := hR3.frozen 1
  have g2 := hR3.frozen 2
  have g3 := hR3.frozen 3
  simp only [List.getElem?_toArray, List.getElem?_cons_zero, List.getElem?_cons_succ] at e0 e1 e2 e3 r0 r1 r2 r3
  have HZ2 := Lib.hid (show w.heap.size + 1 + 1 + 1 ≤ w2.heap.size by have := HsV.out; omega)
  have HR3 := Lib.hid hR3
  clear hR3 hO3 hb2 hz2
  go_wp2_with fail
  obtain ⟨wn, hwn⟩ : ∃ wn, wn = (((((w2.setCell ⟨w.heap.size + 1 + 1, 2, none⟩ (.int .i64 c)).setCell ⟨w.heap.size + 1 + 1, 3, none⟩ (.int .i64 d)).setCell ⟨w.heap.size + 1, 0, none⟩ (.int .i64 a)).setCell ⟨w.heap.size + 1, 1, none⟩ (.int .i64 b)).setCell ⟨w.heap.size + 1, 2, none⟩ (.int .i64 c)).setCell ⟨w.heap.size + 1, 3, none⟩ (.int .i64 d) := ⟨_, rfl⟩
  rw [← hwn]
  have hbn : Below w.heap.size w wn := by
    rw [hwn]
    exact (((((((HbW.out.setCell (p := ⟨w.heap.size + 1 + 1, 2, none⟩) (by show w.heap.size ≤ w.heap.size + 1 + 1; omega) _)).setCell (p := ⟨w.heap.size + 1 + 1, 3, none⟩) (by show w.heap.size ≤ w.heap.size + 1 + 1; omega) _).setCell (p := ⟨w.heap.size + 1, 0, none⟩) (by show w.heap.size ≤ w.heap.size + 1; omega) _).setCell (p := ⟨w.heap.size + 1, 1, none⟩) (by show w.heap.size ≤ w.heap.size + 1; omega) _).setCell (p := ⟨w.heap.size + 1, 2, none⟩) (by show w.heap.size ≤ w.heap.size + 1; omega) _).setCell (p := ⟨w.heap.size + 1, 3, none⟩) (by show w.heap.size ≤ w.heap.size + 1; omega) _)
  have hRn : BlkG wn (w.heap.size + 1) #[.int .i64 a, .int .i64 b, .int .i64 c, .int .i64 d] 46 := by
    rw [hwn]
    exact (((((HR3.out.stay (Below.heap_setCell _ _ _ _ (by show w.heap.size + 1 ≠ w.heap.size + 1 + 1; omega))).stay (Below.heap_setCell _ _ _ _ (by show w.heap.size + 1 ≠ w.heap.size + 1 + 1; omega))).set 0 _).set 1 _).set 2 _).set 3 _
  clear hwn
  have q0 := hRn.cell 0
  have q1 := hRn.cell 1
  have q2 := hRn.cell 2
  have q3 := hRn.cell 3
  simp only [List.getElem?_toArray, List.getElem?_cons_zero, List.getElem?_cons_succ] at q0 q1 q2 q3
  exact bodyPost_ret (v := .agg #[.int .i64 a, .int .i64 b, .int .i64 c, .int .i64 d]) (by simp [results, Try.results27, go_sem, q0, q1, q2, q3]) rfl ⟨rfl, hbn⟩
/-- One place is ahead of another one. -/
def lessG (a b c d : Int) : Bool := decide (a < c ∨ a = c ∧ b < d)
theorem lessG_line {a b c d : Int} (h : ¬ a = c) : lessG a b c d = decide (a < c) := by
  unfold lessG; simp [h]
theorem lessG_col {a b d : Int} : lessG a b a d = decide (b < d) := by
  unfold lessG; simp

set_option maxRecDepth 100000 in
set_option maxHeartbeats 1000000 in
/-- Two slices that hold the same Segs are told to be the same. -/
theorem eqSegS_same (A B : Option Addr) (c d : Nat) (xs : List Sg) (w : World) (hl : xs.length ≤ 2 ^ 40) (hA : SlIs w A (rowG xs)) (hB : SlIs w B (rowG xs)) :
    Calls Try.prog 11 #[.slice A xs.length c, .slice B xs.length d] w fun e w' => e = .returned (.bool true) ∧ Below w.heap.size w w' := by
  have q0 : ((xs.length : Int) != (xs.length : Int)) = false := by simp
  go_enter Try.func11, Try.ntmps11
  go_wp2
  go_loopw [5] (fun i wr => ∃ k : Nat, k ≤ xs.length ∧ i = .int .i64 k ∧ Below w.heap.size w wr)
    (fun i _ => xs.length - (intOf i).toNat)
  case atStart => exact ⟨0, Nat.zero_le _, rfl, Below.refl _ _⟩
  case round =>
    obtain ⟨k, hk, rfl, hbw⟩ := hrel
    by_cases hlt : k < xs.length
    · obtain ⟨g, off, rfl, hg, h0, h1, h2, h3⟩ := (hA.below hbw).seg hlt
      obtain ⟨g', off', rfl, hg', h0', h1', h2', h3'⟩ := (hB.below hbw).seg hlt
      generalize xs[k] = t at *
      obtain ⟨t1, t2, t3, t4⟩ := t
      simp only at h0 h1 h2 h3 h0' h1' h2' h3'
      have hx : (k : Int) < (xs.length : Int) := by omega
      go_wp2
      go_region_held3 (fun w' => w'.cell? ⟨g, off + k * 4, none⟩ = some (.int .i64 t1) ∧ w'.cell? ⟨g, off + k * 4 + 1, none⟩ = some (.int .i64 t2) ∧ w'.cell? ⟨g, off + k * 4 + 2, none⟩ = some (.int .i64 t3) ∧ w'.cell? ⟨g, off + k * 4 + 3, none⟩ = some (.int .i64 t4) ∧ w'.cell? ⟨g', off' + k * 4, none⟩ = some (.int .i64 t1) ∧ w'.cell? ⟨g', off' + k * 4 + 1, none⟩ = some (.int .i64 t2) ∧ w'.cell? ⟨g', off' + k * 4 + 2, none⟩ = some (.int .i64 t3) ∧ w'.cell? ⟨g', off' + k * 4 + 3, none⟩ = some (.int .i64 t4) ∧ Below wr.heap.size wr w')
        (first | exact ⟨h0, h1, h2, h3, h0', h1', h2', h3', (Below.refl _ wr).drew⟩ | exact ⟨(hb2.cell (p := ⟨g, off + k * 4, none⟩) hg).trans h0, (hb2.cell (p := ⟨g, off + k * 4 + 1, none⟩) hg).trans h1, (hb2.cell (p := ⟨g, off + k * 4 + 2, none⟩) hg).trans h2, (hb2.cell (p := ⟨g, off + k * 4 + 3, none⟩) hg).trans h3, (hb2.cell (p := ⟨g', off' + k * 4, none⟩) hg').trans h0', (hb2.cell (p := ⟨g', off' + k * 4 + 1, none⟩) hg').trans h1', (hb2.cell (p := ⟨g', off' + k * 4 + 2, none⟩) hg').trans h2', (hb2.cell (p := ⟨g', off' + k * 4 + 3, none⟩) hg').trans h3', hb2⟩)
        (first | (go_at_call 34; refine (eqSeg_same t1 t2 t3 t4 _).mono ?_; rintro e w2 ⟨rfl, hb2'⟩; have hb2 : Below wr.heap.size wr w2 := (Below.refl _ wr).drew.trans hb2'))
      rename_i hh
      go_wp2
      go_roundw
      case rel => exact ⟨k + 1, by omega, by go_num, hbw.trans (hb2.mono hbw.size)⟩
      case measure => simp [intOf]; omega
    · go_wp2
      go_ret
      exact ⟨rfl, hbw⟩
theorem infoSeg : (Try.prog.info? 46).map (fun i => (i.zero, i.size, i.bytes)) = some (some (.agg #[.int .i64 0, .int .i64 0, .int .i64 0, .int .i64 0]), 4, 32) := by kernel_rfl
/-- Two lists are one. -/
def sameG (xs ys : List Sg) : Bool := decide (xs = ys)
theorem sameG_short {xs ys : List Sg} (h : xs.length ≠ ys.length) : sameG xs ys = false := by
  simp only [sameG, decide_eq_false_iff_not]
  intro e; exact h (by rw [e])
theorem sameG_at {xs ys : List Sg} {k : Nat} (h1 : k < xs.length) (h2 : k < ys.length) (h : eqSg xs[k] ys[k] = false) : sameG xs ys = false := by
  simp only [sameG, decide_eq_false_iff_not]
  rintro rfl
  rw [(eqSg_iff _ _).2 rfl] at h
  cases h
theorem sameG_all {xs ys : List Sg} (hl : xs.length = ys.length) (h : ∀ j (h1 : j < xs.length) (h2 : j < ys.length), eqSg xs[j] ys[j] = true) : sameG xs ys = true := by
  simp only [sameG, decide_eq_true_eq]
  exact List.ext_getElem hl fun j h1 h2 => (eqSg_iff _ _).1 (h j h1 h2)

/-- A slice of Segs that came in. -/
def IsSegs (w : World) (a : Option Addr) (len : Nat) (xs : List Sg) : Prop := xs.length = len ∧ len ≤ maxLen ∧ SlIs w a (rowG xs)
theorem isSegs_nil (w : World) : IsSegs w none 0 [] := ⟨rfl, by simp [maxLen], .inl rfl⟩
def zeroG : Sg := (0, 0, 0, 0)
theorem made_rowG (n : Nat) : (madeCells (sgC zeroG).toArray (n * 4)).toList = rowG (List.replicate n zeroG) := by
  apply List.ext_getElem?
  intro j
  have hl := rowG_length (List.replicate n zeroG)
  rw [List.length_replicate] at hl
  by_cases hj : j < n * 4
  · have h1 := rowG_get (List.replicate n zeroG) (j / 4) (by rw [List.length_replicate]; omega) (j % 4) (by omega)
    rw [show j / 4 * 4 + j % 4 = j by omega, List.getElem_replicate] at h1
    rw [h1]
    have h3 : j % 4 = 0 ∨ j % 4 = 1 ∨ j % 4 = 2 ∨ j % 4 = 3 := by omega
    simp only [madeCells, Array.getElem?_toList, Array.getElem?_map]
    rw [Array.getElem?_range, if_pos hj]
    rcases h3 with h | h | h | h <;> simp [h, sgC, zeroG]
  · rw [List.getElem?_eq_none (by rw [Array.length_toList, size_madeCells]; omega), List.getElem?_eq_none (by rw [hl]; omega)]
theorem own_madeG (w : World) (n : Nat) (hn : n ≤ maxLen) (t : TypeId) : (w.alloc (.cells (madeCells (sgC zeroG).toArray (n * 4)) t)).ownsRow w.heap.size t 4 (.slice (some ⟨w.heap.size, 0, none⟩) n n) n (rowG (List.replicate n zeroG)) :=
  ⟨by rw [rowG_length, List.length_replicate], .inr ⟨w.heap.size, n, _, rfl, Nat.le_refl _, World.alloc_heap_new w _, Nat.le_refl _, hn, by rw [size_madeCells], by rw [made_rowG, List.take_of_length_le (by rw [rowG_length, List.length_replicate]; exact Nat.le_refl _)]⟩⟩
theorem run_makeG (n : Nat) (hn : n ≤ 2 ^ 40) (w : World) : (Instr.makeSlice 25 (.int .i64 (n : Int)) (.int .i64 (n : Int))).run Try.prog w = .ok (.slice (some ⟨w.heap.size, 0, none⟩) n n) (w.alloc (.cells (madeCells (sgC zeroG).toArray (n * 4)) 46)) := by
  obtain ⟨i, hi, hzz⟩ := Option.map_eq_some_iff.1 infoSeg
  simp only [Prod.mk.injEq] at hzz
  obtain ⟨hz, hs, hb⟩ := hzz
  have hr := run_make (P := Try.prog) w 25 46 i _ Try.underlying25 hi hz .i64 .i64 n n (by omega) (Int.le_refl _) (by rw [hb]; omega) (by omega)
  rw [hs] at hr
  simp only [Int.toNat_natCast] at hr
  exact hr
set_option maxRecDepth 100000 in
set_option maxHeartbeats 1000000 in
/-- A copy of one's own. -/
theorem toSegS_any (A : Option Addr) (c : Nat) (xs : List Sg) (w : World) (hl : xs.length ≤ 2 ^ 40) (hA : SlIs w A (rowG xs)) :
    Calls Try.prog 9 #[.slice A xs.length c] w fun e w' => ∃ v, e = .returned v ∧ w'.ownsRow w.heap.size 46 4 v xs.length (rowG xs) ∧ Below w.heap.size w w' := by
  have hmk := run_makeG xs.length hl
  go_enter Try.func9, Try.ntmps9
  go_wp2
  go_loopw [4] (fun i wr => ∃ k : Nat, k ≤ xs.length ∧ i = .int .i64 k ∧ wr.ownsRow w.heap.size 46 4 (.slice (some ⟨w.heap.size, 0, none⟩) xs.length xs.length) xs.length (rowG (xs.take k ++ List.replicate (xs.length - k) zeroG)) ∧ Below w.heap.size w wr)
    (fun i _ => xs.length - (intOf i).toNat)
  case atStart => exact ⟨0, Nat.zero_le _, rfl, by simpa using own_madeG w xs.length (by unfold maxLen; omega) 46, (Below.refl _ w).alloc (Nat.le_refl _) _⟩
  case round =>
    obtain ⟨k, hk, rfl, hrow, hB⟩ := hrel
    clear hmk
    by_cases hlt : k < xs.length
    · obtain ⟨g, off, rfl, hg, h0, h1, h2, h3⟩ := (hA.below hB).seg hlt
      have hyl : (xs.take k ++ List.replicate (xs.length - k) zeroG).length = xs.length := by simp; omega
      obtain ⟨g', off', e', hg', c0, c1, c2, c3⟩ := (SlIs.ownG hrow).seg (k := k) (by rw [hyl]; exact hlt)
      injection e' with e'
      injection e' with e1 e2
      subst e1 e2
      have hx : (k : Int) < (xs.length : Int) := by omega
      have HX := Lib.hid (show (xs.take k ++ List.replicate (xs.length - k) zeroG).set k xs[k] = xs.take (k + 1) ++ List.replicate (xs.length - (k + 1)) zeroG by
        obtain ⟨m, hm⟩ : ∃ m, xs.length - k = m + 1 := ⟨xs.length - k - 1, by omega⟩
        rw [List.set_append_right _ _ (by simp; omega), show k - (xs.take k).length = 0 by simp; omega, hm, List.replicate_succ, List.set_cons_zero, List.take_succ_eq_append_getElem hlt, List.append_assoc, show xs.length - (k + 1) = m by omega]
        rfl)
      rw [Nat.zero_add] at c0 c1 c2 c3
      have HR := Lib.hid hrow
      have HL := Lib.hid hyl
      have f0 := hrow.frozenAt (k * 4)
      have f1 := hrow.frozenAt (k * 4 + 1)
      have f2 := hrow.frozenAt (k * 4 + 2)
      have f3 := hrow.frozenAt (k * 4 + 3)
      generalize (xs.take k ++ List.replicate (xs.length - k) zeroG)[k]'(by rw [hyl]; exact hlt) = z at *
      generalize xs[k] = t at *
      obtain ⟨t1, t2, t3, t4⟩ := t
      simp only at h0 h1 h2 h3
      clear hrow hyl
      go_wp2_with fail
      refine (toSeg_any t1 t2 t3 t4 _).mono ?_
      rintro e w2 ⟨rfl, hb2⟩
      have d0 := (hb2.cell (p := ⟨w.heap.size, k * 4, none⟩) hg').trans c0
      have d1 := (hb2.cell (p := ⟨w.heap.size, k * 4 + 1, none⟩) hg').trans c1
      have d2 := (hb2.cell (p := ⟨w.heap.size, k * 4 + 2, none⟩) hg').trans c2
      have d3 := (hb2.cell (p := ⟨w.heap.size, k * 4 + 3, none⟩) hg').trans c3
      have e0 := (hb2.frozen (p := ⟨w.heap.size, k * 4, none⟩) hg').trans f0
      have e1 := (hb2.frozen (p := ⟨w.heap.size, k * 4 + 1, none⟩) hg').trans f1
      have e2 := (hb2.frozen (p := ⟨w.heap.size, k * 4 + 2, none⟩) hg').trans f2
      have e3 := (hb2.frozen (p := ⟨w.heap.size, k * 4 + 3, none⟩) hg').trans f3
      have HO := Lib.hid (own_below HR.out hb2)
      clear c0 c1 c2 c3 f0 f1 f2 f3 h0 h1 h2 h3 HR
      go_wp2
      go_roundw
      case rel =>
        refine ⟨k + 1, by omega, by go_num, ?_, ?_⟩
        · have s0 := (HO.out.stored (k * 4) (.int .i64 t1)).1
          have s1 := (s0.stored (k * 4 + 1) (.int .i64 t2)).1
          have s2 := (s1.stored (k * 4 + 2) (.int .i64 t3)).1
          have s3 := (s2.stored (k * 4 + 3) (.int .i64 t4)).1
          rw [rowG_set _ k (t1, t2, t3, t4) (by rw [HL.out]; exact hlt), HX.out] at s3
          exact s3
        · exact ((((hB.trans (hb2.mono hB.size)).setCell (p := ⟨w.heap.size, k * 4, none⟩) (Nat.le_refl _) _).setCell (p := ⟨w.heap.size, k * 4 + 1, none⟩) (Nat.le_refl _) _).setCell (p := ⟨w.heap.size, k * 4 + 2, none⟩) (Nat.le_refl _) _).setCell (p := ⟨w.heap.size, k * 4 + 3, none⟩) (Nat.le_refl _) _
      case measure => simp [intOf]; omega
    · have HR := Lib.hid hrow
      clear hrow
      go_wp2
      go_ret
      refine ⟨_, rfl, ?_, hB⟩
      have h2 := HR.out
      obtain rfl : xs.length = k := by omega
      rw [List.take_length, Nat.sub_self, List.replicate_zero, List.append_nil] at h2
      exact h2
theorem szSegS_any (A : Option Addr) (c n : Nat) (left : Int) (w : World) (hm : n ≤ maxLen) (h0 : 0 ≤ left) (h1 : left ≤ 2 ^ 40) :
    Calls Try.prog 7 #[.slice A n c, .int .i64 left] w fun e w' => ∃ r : Int, e = .returned (.int .i64 r) ∧ (0 ≤ r → (n : Int) ≤ left) ∧ r ≤ left ∧ Below w.heap.size w w' := by
  unfold maxLen at hm
  by_cases hbig : left < n
  · have q1 : left - (n : Int) < 0 := by omega
    go_enter Try.func7, Try.ntmps7
    go_wp2
    go_ret
    exact ⟨_, rfl, fun h => absurd h (by decide), by omega, Below.refl _ _⟩
  · have q1 : ¬ (left - (n : Int) < 0) := by omega
    go_enter Try.func7, Try.ntmps7
    go_wp2
    go_ret
    exact ⟨_, rfl, by omega, Below.refl _ _⟩

end Go.Proofs.Ytdkliboehdohdaa
