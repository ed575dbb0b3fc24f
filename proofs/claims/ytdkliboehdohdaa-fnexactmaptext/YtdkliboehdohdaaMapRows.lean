/-
  Rows of Pos and of Seg: when two are one, the marks, appends of one.
-/
import Derived.Test.YtdkliboehdohdaaSegs
namespace Go.Proofs.Ytdkliboehdohdaa
open Go.RowKit

/-- A Pos as Go holds it. -/
abbrev Ps := Int × Int
def psC (x : Ps) : List Value := [.int .i64 x.1, .int .i64 x.2]
def rowQ (xs : List Ps) : List Value := xs.flatMap psC
theorem rowQ_length (xs : List Ps) : (rowQ xs).length = xs.length * 2 := by
  induction xs with
  | nil => rfl
  | cons x xs ih => simp [rowQ, psC] at ih ⊢; omega
theorem rowQ_append (xs ys : List Ps) : rowQ (xs ++ ys) = rowQ xs ++ rowQ ys := by simp [rowQ]
theorem rowQ_cons (x : Ps) (xs : List Ps) : rowQ (x :: xs) = psC x ++ rowQ xs := by simp [rowQ]
theorem rowQ_get (xs : List Ps) : ∀ (k : Nat) (hk : k < xs.length) (i : Nat), i < 2 → (rowQ xs)[k * 2 + i]? = (psC xs[k])[i]? := by
  induction xs with
  | nil => intro k hk; simp at hk
  | cons x xs ih =>
    intro k hk i hi
    rw [rowQ_cons]
    cases k with
    | zero =>
      rw [Nat.zero_mul, Nat.zero_add, List.getElem?_append_left (by simpa [psC] using hi)]
      rfl
    | succ k =>
      rw [List.getElem?_append_right (by simp [psC]; omega), show (k + 1) * 2 + i - (psC x).length = k * 2 + i by simp [psC]; omega]
      exact ih k (by simpa using hk) i hi
/-- The two cells of the Pos at place k. -/
theorem SlIs.pos {w : World} {A : Option Addr} {xs : List Ps} (h : SlIs w A (rowQ xs)) {k : Nat} (hk : k < xs.length) :
    ∃ g off, A = some ⟨g, off, none⟩ ∧ g < w.heap.size ∧ w.cell? ⟨g, off + k * 2, none⟩ = some (.int .i64 xs[k].1) ∧ w.cell? ⟨g, off + k * 2 + 1, none⟩ = some (.int .i64 xs[k].2) := by
  have hl := rowQ_length xs
  rcases h with h | ⟨g, off, e, hg, hc⟩
  · rw [h] at hl; simp at hl; omega
  · have g0 := rowQ_get xs k hk 0 (by omega)
    have g1 := rowQ_get xs k hk 1 (by omega)
    refine ⟨g, off, e, hg, hc _ _ g0, ?_⟩
    rw [Nat.add_assoc]; exact hc _ _ g1
theorem infoPos : (Try.prog.info? 31).map (fun i => (i.zero, i.size, i.bytes)) = some (some (.agg #[.int .i64 0, .int .i64 0]), 2, 16) := by kernel_rfl
theorem info_partsG {t : TypeId} {z : Value} {k b : Nat} (h : (Try.prog.info? t).map (fun i => (i.zero, i.size, i.bytes)) = some (some z, k, b)) : ∃ i, Try.prog.info? t = some i ∧ i.zero = some z ∧ i.size = k ∧ i.bytes = b := by
  obtain ⟨i, hi, hzz⟩ := Option.map_eq_some_iff.1 h
  simp only [Prod.mk.injEq] at hzz
  exact ⟨i, hi, hzz⟩


theorem wpList_appQ {ops : Array Oper} {rest : List Oper} {o : Oper} {a : Act} {W : World} {Q : Exit → Act → World → Prop} (hgd : o.guard = none) (s x' : Operand)
    (ho : o.op = .call { callee := .builtin .append, args := #[s, x'], argTypes := #[37, 37] })
    (base : Nat) (v : Value) (n : Nat) (xs : List Ps) (hn : xs.length = n) (hs : a.eval s = v) (hown : W.ownsRow base 31 2 v n (rowQ xs))
    (g : Nat) (x : Ps) (hx : a.eval x' = .slice (some ⟨g, 0, none⟩) 1 1) (h0 : W.cell? ⟨g, 0, none⟩ = some (.int .i64 x.1)) (h1 : W.cell? ⟨g, 1, none⟩ = some (.int .i64 x.2))
    (b1 : n ≤ 100000) (hbase : base ≤ W.heap.size)
    (h : ∀ v' w', w'.ownsRow base 31 2 v' (n + 1) (rowQ (xs ++ [x])) → W.grownBy w' v.ownBlock → (v'.ownBlock = v.ownBlock ∨ v'.ownBlock = some W.heap.size) → wpList Try.prog ops Q rest (a.put o.dst v') w') : wpList Try.prog ops Q (o :: rest) a W := by
  obtain ⟨i0, hi, hz0, hz1, hz2⟩ := info_partsG infoPos
  refine wpList_append_own_at W hgd s x' 37 ho base 31 i0 (.agg #[.int .i64 0, .int .i64 0]) 2 16 Try.underlying37 hi hz0 hz1 hz2 rfl (by decide) v n (rowQ xs) hs hown ⟨g, 0, none⟩ 1 1 (psC x) hx rfl
    (fun j u hj => by
      match j, hj with
      | 0, hj => simp [psC] at hj; subst hj; exact h0
      | 1, hj => simp [psC] at hj; subst hj; exact h1
      | j + 2, hj => simp [psC] at hj) (by simp [psC, Value.oneCell']) (by unfold maxLen; omega) (by omega) hbase ?_
  intro v' w' q1 q2 _ q4
  have e : rowQ (xs ++ [x]) = rowQ xs ++ psC x := by simp [rowQ]
  exact h v' w' (by rw [e]; exact q1) q2 q4

theorem wpList_appG {ops : Array Oper} {rest : List Oper} {o : Oper} {a : Act} {W : World} {Q : Exit → Act → World → Prop} (hgd : o.guard = none) (s x' : Operand)
    (ho : o.op = .call { callee := .builtin .append, args := #[s, x'], argTypes := #[25, 25] })
    (base : Nat) (v : Value) (n : Nat) (xs : List Sg) (hn : xs.length = n) (hs : a.eval s = v) (hown : W.ownsRow base 46 4 v n (rowG xs))
    (g : Nat) (x : Sg) (hx : a.eval x' = .slice (some ⟨g, 0, none⟩) 1 1) (h0 : W.cell? ⟨g, 0, none⟩ = some (.int .i64 x.1)) (h1 : W.cell? ⟨g, 1, none⟩ = some (.int .i64 x.2.1)) (h2 : W.cell? ⟨g, 2, none⟩ = some (.int .i64 x.2.2.1)) (h3 : W.cell? ⟨g, 3, none⟩ = some (.int .i64 x.2.2.2))
    (b1 : n ≤ 100000) (hbase : base ≤ W.heap.size)
    (h : ∀ v' w', w'.ownsRow base 46 4 v' (n + 1) (rowG (xs ++ [x])) → W.grownBy w' v.ownBlock → (v'.ownBlock = v.ownBlock ∨ v'.ownBlock = some W.heap.size) → wpList Try.prog ops Q rest (a.put o.dst v') w') : wpList Try.prog ops Q (o :: rest) a W := by
  obtain ⟨i0, hi, hz0, hz1, hz2⟩ := info_partsG infoSeg
  refine wpList_append_own_at W hgd s x' 25 ho base 46 i0 (.agg #[.int .i64 0, .int .i64 0, .int .i64 0, .int .i64 0]) 4 32 Try.underlying25 hi hz0 hz1 hz2 rfl (by decide) v n (rowG xs) hs hown ⟨g, 0, none⟩ 1 1 (sgC x) hx rfl
    (fun j u hj => by
      match j, hj with
      | 0, hj => simp [sgC] at hj; subst hj; exact h0
      | 1, hj => simp [sgC] at hj; subst hj; exact h1
      | 2, hj => simp [sgC] at hj; subst hj; exact h2
      | 3, hj => simp [sgC] at hj; subst hj; exact h3
      | j + 4, hj => simp [sgC] at hj) (by simp [sgC, Value.oneCell']) (by unfold maxLen; omega) (by omega) hbase ?_
  intro v' w' q1 q2 _ q4
  have e : rowG (xs ++ [x]) = rowG xs ++ sgC x := by simp [rowG]
  exact h v' w' (by rw [e]; exact q1) q2 q4

/-- The same, as a step of a region that draws. -/
theorem step_appQ {ops : Array Oper} {o : Oper} {a : Act} {Y : World} {K : Act → World → Prop} {Q : Exit → Act → World → Prop} {E : Prop}
    (hg : o.guard = none) (s x' : Operand) (hop : o.op = Op.call { callee := Callee.builtin Builtin.append, args := #[s, x'], argTypes := #[37, 37] })
    (B : Nat) (v : Value) (n : Nat) (xs : List Ps) (hs : a.eval s = v) (hown : Y.ownsRow B 31 2 v n (rowQ xs))
    (g : Nat) (x : Ps) (hx : a.eval x' = .slice (some ⟨g, 0, none⟩) 1 1) (h0 : Y.cell? ⟨g, 0, none⟩ = some (.int .i64 x.1)) (h1 : Y.cell? ⟨g, 1, none⟩ = some (.int .i64 x.2)) (b1 : n ≤ 100000) (hB : B ≤ Y.heap.size)
    (hK : ∀ v' Z, Z.ownsRow B 31 2 v' (n + 1) (rowQ (xs ++ [x])) → Y.grownBy Z v.ownBlock → (v'.ownBlock = v.ownBlock ∨ v'.ownBlock = some Y.heap.size) → K (a.put o.dst v') Z) :
    if Region.wanted o (yielded ops a.tmps) = true then Oper.wp Try.prog o a Y K Q else E := by
  obtain ⟨i0, hi, hz0, hz1, hz2⟩ := info_partsG infoPos
  have hw : Region.wanted o (yielded ops a.tmps) = true := by simp [Region.wanted, hg]
  rw [if_pos hw]
  obtain ⟨v', w', hrun, r1, r2, _, r4⟩ := run_append_own_at (P := Try.prog) Y B 37 o.type 31 i0 _ 2 16 Try.underlying37 hi hz0 hz1 hz2 rfl (by decide) v n (rowQ xs) hown ⟨g, 0, none⟩ 1 1 (psC x) rfl
    (fun j u hj => by
      match j, hj with
      | 0, hj => simp [psC] at hj; subst hj; exact h0
      | 1, hj => simp [psC] at hj; subst hj; exact h1
      | j + 2, hj => simp [psC] at hj) (by simp [psC, Value.oneCell']) (by unfold maxLen; omega) (by omega) hB
  have e : rowQ (xs ++ [x]) = rowQ xs ++ psC x := by simp [rowQ]
  unfold Oper.wp
  simp [execOp, hop, resolve, invoke, builtin, hs, hx, hrun, Result.andThen]
  exact hK v' w' (by rw [e]; exact r1) r2 r4

/-- The same, as a step of a region that draws. -/
theorem step_appG {ops : Array Oper} {o : Oper} {a : Act} {Y : World} {K : Act → World → Prop} {Q : Exit → Act → World → Prop} {E : Prop}
    (hg : o.guard = none) (s x' : Operand) (hop : o.op = Op.call { callee := Callee.builtin Builtin.append, args := #[s, x'], argTypes := #[25, 25] })
    (B : Nat) (v : Value) (n : Nat) (xs : List Sg) (hs : a.eval s = v) (hown : Y.ownsRow B 46 4 v n (rowG xs))
    (g : Nat) (x : Sg) (hx : a.eval x' = .slice (some ⟨g, 0, none⟩) 1 1) (h0 : Y.cell? ⟨g, 0, none⟩ = some (.int .i64 x.1)) (h1 : Y.cell? ⟨g, 1, none⟩ = some (.int .i64 x.2.1)) (h2 : Y.cell? ⟨g, 2, none⟩ = some (.int .i64 x.2.2.1)) (h3 : Y.cell? ⟨g, 3, none⟩ = some (.int .i64 x.2.2.2)) (b1 : n ≤ 100000) (hB : B ≤ Y.heap.size)
    (hK : ∀ v' Z, Z.ownsRow B 46 4 v' (n + 1) (rowG (xs ++ [x])) → Y.grownBy Z v.ownBlock → (v'.ownBlock = v.ownBlock ∨ v'.ownBlock = some Y.heap.size) → K (a.put o.dst v') Z) :
    if Region.wanted o (yielded ops a.tmps) = true then Oper.wp Try.prog o a Y K Q else E := by
  obtain ⟨i0, hi, hz0, hz1, hz2⟩ := info_partsG infoSeg
  have hw : Region.wanted o (yielded ops a.tmps) = true := by simp [Region.wanted, hg]
  rw [if_pos hw]
  obtain ⟨v', w', hrun, r1, r2, _, r4⟩ := run_append_own_at (P := Try.prog) Y B 25 o.type 46 i0 _ 4 32 Try.underlying25 hi hz0 hz1 hz2 rfl (by decide) v n (rowG xs) hown ⟨g, 0, none⟩ 1 1 (sgC x) rfl
    (fun j u hj => by
      match j, hj with
      | 0, hj => simp [sgC] at hj; subst hj; exact h0
      | 1, hj => simp [sgC] at hj; subst hj; exact h1
      | 2, hj => simp [sgC] at hj; subst hj; exact h2
      | 3, hj => simp [sgC] at hj; subst hj; exact h3
      | j + 4, hj => simp [sgC] at hj) (by simp [sgC, Value.oneCell']) (by unfold maxLen; omega) (by omega) hB
  have e : rowG (xs ++ [x]) = rowG xs ++ sgC x := by simp [rowG]
  unfold Oper.wp
  simp [execOp, hop, resolve, invoke, builtin, hs, hx, hrun, Result.andThen]
  exact hK v' w' (by rw [e]; exact r1) r2 r4
theorem grow_below {w W w1 : World} {B sz n : Nat} {t : TypeId} {v : Value} {xs : List Value} (hB : Below B w W) (hn : B ≤ W.heap.size) (hrow : W.ownsRow B t sz v n xs) (hg : W.grownBy w1 v.ownBlock) : Below B w w1 := by
  refine hB.grown hg hn fun j ej => ?_
  rcases hrow.2 with ⟨rfl, _⟩ | ⟨g, cap, cur, rfl, hb, _, _⟩
  · simp [Value.ownBlock] at ej
  · obtain rfl : g = j := by simpa [Value.ownBlock] using ej
    exact hb
theorem owns_nil (w : World) (B : Nat) (t : TypeId) (sz : Nat) : w.ownsRow B t sz (.slice none 0 0) 0 [] := ⟨by simp, .inl ⟨rfl, rfl⟩⟩
theorem owns_made (w : World) (t : TypeId) (sz : Nat) : (w.alloc (.cells #[] t)).ownsRow w.heap.size t sz (.slice (some ⟨w.heap.size, 0, none⟩) 0 0) 0 [] :=
  ⟨by simp, .inr ⟨w.heap.size, 0, #[], rfl, Nat.le_refl _, World.alloc_heap_new w _, Nat.le_refl _, by simp [maxLen], by simp, by simp⟩⟩


set_option maxRecDepth 100000 in
set_option maxHeartbeats 1000000 in
/-- Two slices that hold the same places are told to be the same. -/
theorem eqPosS_same (A B : Option Addr) (c d : Nat) (xs : List Ps) (w : World) (hl : xs.length ≤ 2 ^ 40) (hA : SlIs w A (rowQ xs)) (hB : SlIs w B (rowQ xs)) :
    Calls Try.prog 18 #[.slice A xs.length c, .slice B xs.length d] w fun e w' => e = .returned (.bool true) ∧ Below w.heap.size w w' := by
  have q0 : ((xs.length : Int) != (xs.length : Int)) = false := by simp
  go_enter Try.func18, Try.ntmps18
  go_wp2
  go_loopw [5] (fun i wr => ∃ k : Nat, k ≤ xs.length ∧ i = .int .i64 k ∧ Below w.heap.size w wr)
    (fun i _ => xs.length - (intOf i).toNat)
  case atStart => exact ⟨0, Nat.zero_le _, rfl, Below.refl _ _⟩
  case round =>
    obtain ⟨k, hk, rfl, hbw⟩ := hrel
    by_cases hlt : k < xs.length
    · obtain ⟨g, off, rfl, hg, h0, h1⟩ := (hA.below hbw).pos hlt
      obtain ⟨g', off', rfl, hg', h0', h1'⟩ := (hB.below hbw).pos hlt
      generalize xs[k] = t at *
      obtain ⟨t1, t2⟩ := t
      simp only at h0 h1 h0' h1'
      have hx : (k : Int) < (xs.length : Int) := by omega
      go_wp2
      go_region_held3 (fun w' => w'.cell? ⟨g, off + k * 2, none⟩ = some (.int .i64 t1) ∧ w'.cell? ⟨g, off + k * 2 + 1, none⟩ = some (.int .i64 t2) ∧ w'.cell? ⟨g', off' + k * 2, none⟩ = some (.int .i64 t1) ∧ w'.cell? ⟨g', off' + k * 2 + 1, none⟩ = some (.int .i64 t2) ∧ Below wr.heap.size wr w')
        (first | exact ⟨h0, h1, h0', h1', (Below.refl _ wr).drew⟩ | exact ⟨(hb2.cell (p := ⟨g, off + k * 2, none⟩) hg).trans h0, (hb2.cell (p := ⟨g, off + k * 2 + 1, none⟩) hg).trans h1, (hb2.cell (p := ⟨g', off' + k * 2, none⟩) hg').trans h0', (hb2.cell (p := ⟨g', off' + k * 2 + 1, none⟩) hg').trans h1', hb2⟩)
        (first | (go_at_call 15; refine (eqPos_same t1 t2 _).mono ?_; rintro e w2 ⟨rfl, hb2'⟩; have hb2 : Below wr.heap.size wr w2 := (Below.refl _ wr).drew.trans hb2'))
      rename_i hh
      go_wp2
      go_roundw
      case rel => exact ⟨k + 1, by omega, by go_num, hbw.trans (hb2.mono hbw.size)⟩
      case measure => simp [intOf]; omega
    · go_wp2
      go_ret
      exact ⟨rfl, hbw⟩

/-- Marks, one a cell. -/
def marksI (k n : Nat) : List Value := (List.range n).map fun j => .int .i64 ((k + j : Nat) : Int)
theorem marksI_length (k n : Nat) : (marksI k n).length = n := by simp [marksI]
theorem marksI_get (k n j : Nat) (h : j < n) : (marksI k n)[j]? = some (.int .i64 ((k + j : Nat) : Int)) := by simp [marksI, h]
theorem marksI_succ (k n : Nat) : marksI k (n + 1) = marksI k n ++ [.int .i64 ((k + n : Nat) : Int)] := by simp [marksI, List.range_succ]
theorem marks_set (R : List Value) (k i : Nat) (h : i < R.length) : (marksI k i ++ R.drop i).set i (.int .i64 ((k + i : Nat) : Int)) = marksI k (i + 1) ++ R.drop (i + 1) := by
  rw [List.set_append_right _ _ (by rw [marksI_length]; exact Nat.le_refl _), marksI_length, Nat.sub_self, marksI_succ, List.drop_eq_getElem_cons h, List.set_cons_zero, List.append_assoc]
  rfl
theorem SlIs.cell {w : World} {A : Option Addr} {R : List Value} (h : SlIs w A R) {k : Nat} (hk : k < R.length) : ∃ g off, A = some ⟨g, off, none⟩ ∧ g < w.heap.size ∧ ∀ j u, R[j]? = some u → w.cell? ⟨g, off + j, none⟩ = some u := by
  rcases h with h | ⟨g, off, e, hg, hc⟩
  · rw [h] at hk; simp at hk
  · exact ⟨g, off, e, hg, hc⟩
theorem grown_put {w wr : World} {g j : Nat} {v : Value} (h : w.grownBy wr (some g)) : w.grownBy (wr.setCell ⟨g, j, none⟩ v) (some g) :=
  ⟨h.os, h.tape, h.output, Nat.le_trans h.size (by simp [World.setCell]), fun i hi hne => (Below.heap_setCell wr ⟨g, j, none⟩ v i (fun e => hne (by rw [e]))).trans (h.block i hi hne)⟩

set_option maxRecDepth 100000 in
set_option maxHeartbeats 2000000 in
/-- A slice that holds the marks is told to hold them. -/
theorem heldPosS_ok (A : Option Addr) (c k n : Nat) (w : World) (hl : k + 2 * n ≤ 2 ^ 40) (hA : SlIs w A (marksI k (n * 2))) :
    Calls Try.prog 21 #[.slice A n c, .int .i64 (k : Int)] w fun e w' => e = .returned (.int .i64 ((k + 2 * n : Nat) : Int)) ∧ w = w' := by
  go_enter Try.func21, Try.ntmps21
  go_wp2
  go_loopw [1, 5] (fun d i wr => ∃ j mm : Nat, j ≤ n ∧ i = .int .i64 j ∧ d = .int .i64 (mm : Int) ∧ Hid (mm = k + 2 * j) ∧ w = wr)
    (fun _ i _ => n - (intOf i).toNat)
  case atStart => exact ⟨0, k, Nat.zero_le _, rfl, rfl, rfl, rfl⟩
  case round =>
    obtain ⟨j, mm, hj, rfl, rfl, HM, rfl⟩ := hrel
    have hmb : mm ≤ 2 ^ 40 := by have := HM.out; omega
    by_cases hlt : j < n
    · obtain ⟨g, off, rfl, hg, hc⟩ := hA.cell (k := j * 2) (by rw [marksI_length]; omega)
      have c0 := hc (j * 2) _ (marksI_get k (n * 2) (j * 2) (by omega))
      have c1 := hc (j * 2 + 1) _ (marksI_get k (n * 2) (j * 2 + 1) (by omega))
      rw [show ((k + (j * 2) : Nat) : Int) = (mm : Int) by have := HM.out; omega] at c0
      rw [show ((k + (j * 2 + 1) : Nat) : Int) = (mm : Int) + 1 by have := HM.out; omega, ← Nat.add_assoc] at c1
      have hx : (j : Int) < (n : Int) := by omega
      have q0 : ((mm : Int) != (mm : Int)) = false := by simp
      have q1 : (((mm : Int) + 1) != ((mm : Int) + 1)) = false := by simp
      have e1 : (mm : Int) + 1 + 1 = (mm : Int) + 2 := by omega
      clear hA hc
      go_wp2
      go_roundw
      case rel => exact ⟨j + 1, mm + 2, by omega, by go_num, by go_num, by have := HM.out; show mm + 2 = _; omega, by simp⟩
      case measure => simp [intOf]; omega
    · obtain rfl : n = j := by omega
      go_wp2
      go_ret
      exact ⟨ret_int (by rw [HM.out]), rfl⟩

set_option maxRecDepth 100000 in
set_option maxHeartbeats 2000000 in
/-- The marks are put into a slice of one's own, and nothing beside that slice is turned. -/
theorem markPosS_own (base : Nat) (A : Option Addr) (c k n : Nat) (R : List Value) (w : World) (hl : k + 2 * n ≤ 2 ^ 40) (hown : w.ownsRow base 31 2 (.slice A n c) n R) :
    Calls Try.prog 20 #[.slice A n c, .int .i64 (k : Int)] w fun e w' => e = .returned (.int .i64 ((k + 2 * n : Nat) : Int)) ∧ w'.ownsRow base 31 2 (.slice A n c) n (marksI k (n * 2)) ∧ Below base w w' ∧ w.grownBy w' (Value.slice A n c).ownBlock := by
  have hR : R.length = n * 2 := hown.1
  go_enter Try.func20, Try.ntmps20
  go_wp2
  go_loopw [1, 5] (fun d i wr => ∃ j mm : Nat, j ≤ n ∧ i = .int .i64 j ∧ d = .int .i64 (mm : Int) ∧ Hid (mm = k + 2 * j) ∧ wr.ownsRow base 31 2 (.slice A n c) n (marksI k (j * 2) ++ R.drop (j * 2)) ∧ Below base w wr ∧ w.grownBy wr (Value.slice A n c).ownBlock)
    (fun _ i _ => n - (intOf i).toNat)
  case atStart => exact ⟨0, k, Nat.zero_le _, rfl, rfl, rfl, by simpa [marksI] using hown, Below.refl _ _, ⟨rfl, rfl, rfl, Nat.le_refl _, fun _ _ _ => rfl⟩⟩
  case round =>
    obtain ⟨j, mm, hj, rfl, rfl, HM, hrow, hnx, hgr⟩ := hrel
    have hmb : mm ≤ 2 ^ 40 := by have := HM.out; omega
    by_cases hlt : j < n
    · obtain ⟨g, cap, hv, hbg, hgl⟩ := hrow.form (by omega)
      have hA : A = some ⟨g, 0, none⟩ := by injection hv
      subst hA
      have hc0 : ∃ u, wr.cell? ⟨g, j * 2, none⟩ = some u := ⟨_, (hrow.cellAt (j * 2) (by omega)).trans (List.getElem?_eq_getElem (by rw [List.length_append, marksI_length, List.length_drop]; omega))⟩
      obtain ⟨u0, c0⟩ := hc0
      have f0 := hrow.frozenAt (j * 2)
      have hc1 : ∃ u, wr.cell? ⟨g, j * 2 + 1, none⟩ = some u := ⟨_, (hrow.cellAt (j * 2 + 1) (by omega)).trans (List.getElem?_eq_getElem (by rw [List.length_append, marksI_length, List.length_drop]; omega))⟩
      obtain ⟨u1, c1⟩ := hc1
      have f1 := hrow.frozenAt (j * 2 + 1)
      have hx : (j : Int) < (n : Int) := by omega
      have e1 : (mm : Int) + 1 + 1 = (mm : Int) + 2 := by omega
      have HR := Lib.hid hrow
      have HX := Lib.hid (show j * 2 + 2 ≤ R.length by omega)
      have HG := Lib.hid hv
      clear hrow hv hown hR
      go_wp2
      go_roundw
      case rel =>
        refine ⟨j + 1, mm + 2, by omega, by go_num, by go_num, by have := HM.out; show mm + 2 = _; omega, ?_, ((hnx.setCell (p := ⟨g, j * 2, none⟩) hbg _).setCell (p := ⟨g, j * 2 + 1, none⟩) hbg _), grown_put (grown_put (hgr))⟩
        · rw [show (j + 1) * 2 = j * 2 + 2 by omega]
          have s0 := (HR.out.stored (j * 2) (.int .i64 ((k + (j * 2) : Nat) : Int))).1
          rw [marks_set R k (j * 2) (by have := HX.out; omega)] at s0
          have s1 := (s0.stored (j * 2 + 1) (.int .i64 ((k + (j * 2 + 1) : Nat) : Int))).1
          rw [marks_set R k (j * 2 + 1) (by have := HX.out; omega)] at s1
          rw [show ((k + (j * 2) : Nat) : Int) = (mm : Int) by have := HM.out; omega] at s1
          rw [show ((k + (j * 2 + 1) : Nat) : Int) = (mm : Int) + 1 by have := HM.out; omega] at s1
          exact s1
      case measure => simp [intOf]; omega
    · obtain rfl : n = j := by omega
      have HR := Lib.hid hrow
      clear hrow hown
      go_wp2
      go_ret
      exact ⟨ret_int (by rw [HM.out]), by have := HR.out; rw [List.drop_eq_nil_of_le (by omega), List.append_nil] at this; exact this, hnx, hgr⟩

set_option maxRecDepth 100000 in
set_option maxHeartbeats 2000000 in
/-- A slice that holds the marks is told to hold them. -/
theorem heldSegS_ok (A : Option Addr) (c k n : Nat) (w : World) (hl : k + 4 * n ≤ 2 ^ 40) (hA : SlIs w A (marksI k (n * 4))) :
    Calls Try.prog 24 #[.slice A n c, .int .i64 (k : Int)] w fun e w' => e = .returned (.int .i64 ((k + 4 * n : Nat) : Int)) ∧ w = w' := by
  go_enter Try.func24, Try.ntmps24
  go_wp2
  go_loopw [1, 5] (fun d i wr => ∃ j mm : Nat, j ≤ n ∧ i = .int .i64 j ∧ d = .int .i64 (mm : Int) ∧ Hid (mm = k + 4 * j) ∧ w = wr)
    (fun _ i _ => n - (intOf i).toNat)
  case atStart => exact ⟨0, k, Nat.zero_le _, rfl, rfl, rfl, rfl⟩
  case round =>
    obtain ⟨j, mm, hj, rfl, rfl, HM, rfl⟩ := hrel
    have hmb : mm ≤ 2 ^ 40 := by have := HM.out; omega
    by_cases hlt : j < n
    · obtain ⟨g, off, rfl, hg, hc⟩ := hA.cell (k := j * 4) (by rw [marksI_length]; omega)
      have c0 := hc (j * 4) _ (marksI_get k (n * 4) (j * 4) (by omega))
      have c1 := hc (j * 4 + 1) _ (marksI_get k (n * 4) (j * 4 + 1) (by omega))
      have c2 := hc (j * 4 + 2) _ (marksI_get k (n * 4) (j * 4 + 2) (by omega))
      have c3 := hc (j * 4 + 3) _ (marksI_get k (n * 4) (j * 4 + 3) (by omega))
      rw [show ((k + (j * 4) : Nat) : Int) = (mm : Int) by have := HM.out; omega] at c0
      rw [show ((k + (j * 4 + 1) : Nat) : Int) = (mm : Int) + 1 by have := HM.out; omega, ← Nat.add_assoc] at c1
      rw [show ((k + (j * 4 + 2) : Nat) : Int) = (mm : Int) + 2 by have := HM.out; omega, ← Nat.add_assoc] at c2
      rw [show ((k + (j * 4 + 3) : Nat) : Int) = (mm : Int) + 3 by have := HM.out; omega, ← Nat.add_assoc] at c3
      have hx : (j : Int) < (n : Int) := by omega
      have q0 : ((mm : Int) != (mm : Int)) = false := by simp
      have q1 : (((mm : Int) + 1) != ((mm : Int) + 1)) = false := by simp
      have q2 : (((mm : Int) + 2) != ((mm : Int) + 2)) = false := by simp
      have q3 : (((mm : Int) + 3) != ((mm : Int) + 3)) = false := by simp
      have e1 : (mm : Int) + 1 + 1 = (mm : Int) + 2 := by omega
      have e2 : (mm : Int) + 2 + 1 = (mm : Int) + 3 := by omega
      have e3 : (mm : Int) + 3 + 1 = (mm : Int) + 4 := by omega
      clear hA hc
      go_wp2
      go_roundw
      case rel => exact ⟨j + 1, mm + 4, by omega, by go_num, by go_num, by have := HM.out; show mm + 4 = _; omega, by simp⟩
      case measure => simp [intOf]; omega
    · obtain rfl : n = j := by omega
      go_wp2
      go_ret
      exact ⟨ret_int (by rw [HM.out]), rfl⟩

set_option maxRecDepth 100000 in
set_option maxHeartbeats 2000000 in
/-- The marks are put into a slice of one's own, and nothing beside that slice is turned. -/
theorem markSegS_own (base : Nat) (A : Option Addr) (c k n : Nat) (R : List Value) (w : World) (hl : k + 4 * n ≤ 2 ^ 40) (hown : w.ownsRow base 46 4 (.slice A n c) n R) :
    Calls Try.prog 19 #[.slice A n c, .int .i64 (k : Int)] w fun e w' => e = .returned (.int .i64 ((k + 4 * n : Nat) : Int)) ∧ w'.ownsRow base 46 4 (.slice A n c) n (marksI k (n * 4)) ∧ Below base w w' ∧ w.grownBy w' (Value.slice A n c).ownBlock := by
  have hR : R.length = n * 4 := hown.1
  go_enter Try.func19, Try.ntmps19
  go_wp2
  go_loopw [1, 5] (fun d i wr => ∃ j mm : Nat, j ≤ n ∧ i = .int .i64 j ∧ d = .int .i64 (mm : Int) ∧ Hid (mm = k + 4 * j) ∧ wr.ownsRow base 46 4 (.slice A n c) n (marksI k (j * 4) ++ R.drop (j * 4)) ∧ Below base w wr ∧ w.grownBy wr (Value.slice A n c).ownBlock)
    (fun _ i _ => n - (intOf i).toNat)
  case atStart => exact ⟨0, k, Nat.zero_le _, rfl, rfl, rfl, by simpa [marksI] using hown, Below.refl _ _, ⟨rfl, rfl, rfl, Nat.le_refl _, fun _ _ _ => rfl⟩⟩
  case round =>
    obtain ⟨j, mm, hj, rfl, rfl, HM, hrow, hnx, hgr⟩ := hrel
    have hmb : mm ≤ 2 ^ 40 := by have := HM.out; omega
    by_cases hlt : j < n
    · obtain ⟨g, cap, hv, hbg, hgl⟩ := hrow.form (by omega)
      have hA : A = some ⟨g, 0, none⟩ := by injection hv
      subst hA
      have hc0 : ∃ u, wr.cell? ⟨g, j * 4, none⟩ = some u := ⟨_, (hrow.cellAt (j * 4) (by omega)).trans (List.getElem?_eq_getElem (by rw [List.length_append, marksI_length, List.length_drop]; omega))⟩
      obtain ⟨u0, c0⟩ := hc0
      have f0 := hrow.frozenAt (j * 4)
      have hc1 : ∃ u, wr.cell? ⟨g, j * 4 + 1, none⟩ = some u := ⟨_, (hrow.cellAt (j * 4 + 1) (by omega)).trans (List.getElem?_eq_getElem (by rw [List.length_append, marksI_length, List.length_drop]; omega))⟩
      obtain ⟨u1, c1⟩ := hc1
      have f1 := hrow.frozenAt (j * 4 + 1)
      have hc2 : ∃ u, wr.cell? ⟨g, j * 4 + 2, none⟩ = some u := ⟨_, (hrow.cellAt (j * 4 + 2) (by omega)).trans (List.getElem?_eq_getElem (by rw [List.length_append, marksI_length, List.length_drop]; omega))⟩
      obtain ⟨u2, c2⟩ := hc2
      have f2 := hrow.frozenAt (j * 4 + 2)
      have hc3 : ∃ u, wr.cell? ⟨g, j * 4 + 3, none⟩ = some u := ⟨_, (hrow.cellAt (j * 4 + 3) (by omega)).trans (List.getElem?_eq_getElem (by rw [List.length_append, marksI_length, List.length_drop]; omega))⟩
      obtain ⟨u3, c3⟩ := hc3
      have f3 := hrow.frozenAt (j * 4 + 3)
      have hx : (j : Int) < (n : Int) := by omega
      have e1 : (mm : Int) + 1 + 1 = (mm : Int) + 2 := by omega
      have e2 : (mm : Int) + 2 + 1 = (mm : Int) + 3 := by omega
      have e3 : (mm : Int) + 3 + 1 = (mm : Int) + 4 := by omega
      have HR := Lib.hid hrow
      have HX := Lib.hid (show j * 4 + 4 ≤ R.length by omega)
      have HG := Lib.hid hv
      clear hrow hv hown hR
      go_wp2
      go_roundw
      case rel =>
        refine ⟨j + 1, mm + 4, by omega, by go_num, by go_num, by have := HM.out; show mm + 4 = _; omega, ?_, ((((hnx.setCell (p := ⟨g, j * 4, none⟩) hbg _).setCell (p := ⟨g, j * 4 + 1, none⟩) hbg _).setCell (p := ⟨g, j * 4 + 2, none⟩) hbg _).setCell (p := ⟨g, j * 4 + 3, none⟩) hbg _), grown_put (grown_put (grown_put (grown_put (hgr))))⟩
        · rw [show (j + 1) * 4 = j * 4 + 4 by omega]
          have s0 := (HR.out.stored (j * 4) (.int .i64 ((k + (j * 4) : Nat) : Int))).1
          rw [marks_set R k (j * 4) (by have := HX.out; omega)] at s0
          have s1 := (s0.stored (j * 4 + 1) (.int .i64 ((k + (j * 4 + 1) : Nat) : Int))).1
          rw [marks_set R k (j * 4 + 1) (by have := HX.out; omega)] at s1
          have s2 := (s1.stored (j * 4 + 2) (.int .i64 ((k + (j * 4 + 2) : Nat) : Int))).1
          rw [marks_set R k (j * 4 + 2) (by have := HX.out; omega)] at s2
          have s3 := (s2.stored (j * 4 + 3) (.int .i64 ((k + (j * 4 + 3) : Nat) : Int))).1
          rw [marks_set R k (j * 4 + 3) (by have := HX.out; omega)] at s3
          rw [show ((k + (j * 4) : Nat) : Int) = (mm : Int) by have := HM.out; omega] at s3
          rw [show ((k + (j * 4 + 1) : Nat) : Int) = (mm : Int) + 1 by have := HM.out; omega] at s3
          rw [show ((k + (j * 4 + 2) : Nat) : Int) = (mm : Int) + 2 by have := HM.out; omega] at s3
          rw [show ((k + (j * 4 + 3) : Nat) : Int) = (mm : Int) + 3 by have := HM.out; omega] at s3
          exact s3
      case measure => simp [intOf]; omega
    · obtain rfl : n = j := by omega
      have HR := Lib.hid hrow
      clear hrow hown
      go_wp2
      go_ret
      exact ⟨ret_int (by rw [HM.out]), by have := HR.out; rw [List.drop_eq_nil_of_le (by omega), List.append_nil] at this; exact this, hnx, hgr⟩

end Go.Proofs.Ytdkliboehdohdaa
