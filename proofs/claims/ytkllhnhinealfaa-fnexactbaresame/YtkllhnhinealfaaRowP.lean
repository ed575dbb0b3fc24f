/-
  A row of pairs of one's own; a pair put behind it.
-/
import Derived.Test.YtkllhnhinealfaaMapKey
import Derived.Test.YtkllhnhinealfaaOwnMk
import Derived.Laws.AppendOwn
namespace Go.Proofs.Ytkllhnhinealfaa
open Go.RowKit

/-- One of a pair: what it is, and where its kids lie. -/
abbrev K4 := Ex × Option Addr × Nat
def k4C (d : K4) : List Value := kidCells d.1 d.2.1 d.2.2
def prC (p : K4 × K4) : List Value := k4C p.1 ++ k4C p.2
def prE (p : K4 × K4) : Ex × Ex := (p.1.1, p.2.1)
def rowP (ps : List (K4 × K4)) : List Value := ps.flatMap prC
theorem rowP_append (xs ys : List (K4 × K4)) : rowP (xs ++ ys) = rowP xs ++ rowP ys := by simp [rowP]
theorem rowP_one1 (x : K4 × K4) : rowP [x] = prC x := by simp [rowP]
theorem rowP_cons (x : K4 × K4) (xs : List (K4 × K4)) : rowP (x :: xs) = prC x ++ rowP xs := by simp [rowP]
theorem prC_length (x : K4 × K4) : (prC x).length = 8 := rfl
theorem rowP_length (xs : List (K4 × K4)) : (rowP xs).length = xs.length * 8 := by
  induction xs with
  | nil => rfl
  | cons x xs ih => rw [rowP_cons, List.length_append, prC_length, ih, List.length_cons]; omega
theorem prC_one (d : K4 × K4) : ∀ u ∈ prC d, u.oneCell' = true := by
  intro u hu
  simp [prC, k4C, kidCells] at hu
  rcases hu with rfl | rfl | rfl | rfl | rfl | rfl | rfl | rfl <;> rfl
theorem infoP : (Try.prog.info? 42).map (fun i => (i.zero, i.size, i.bytes)) = some (some (.agg #[.int .i64 0, .int .i64 0, .string ByteArray.empty, .slice none 0 0, .int .i64 0, .int .i64 0, .string ByteArray.empty, .slice none 0 0]), 8, 112) := by kernel_rfl
/-- The row is there, at this block. -/
def RowAt (w : World) (base g n c : Nat) (ps : List (K4 × K4)) : Prop := w.ownsRow base 42 8 (.slice (some ⟨g, 0, none⟩) n c) n (rowP ps)
theorem RowAt.lt {w : World} {base g n c : Nat} {ps : List (K4 × K4)} (h : RowAt w base g n c ps) : base ≤ g ∧ g < w.heap.size ∧ n ≤ c := by
  rcases h.2 with ⟨h0, _⟩ | ⟨g2, _, _, hv, hb, hgb, hc, _⟩
  · cases h0
  · injection hv with h1 h2 h3
    injection h1 with h1
    injection h1 with h1
    subst h1 h3
    exact ⟨hb, (Array.getElem?_eq_some_iff.1 hgb).1, hc⟩
theorem RowAt.keep {w w' : World} {base g n c : Nat} {ps : List (K4 × K4)} (h : RowAt w base g n c ps) (hb : w'.heap[g]? = w.heap[g]?) : RowAt w' base g n c ps := by
  refine ⟨h.1, ?_⟩
  rcases h.2 with ⟨h0, _⟩ | ⟨g2, c2, cur, hv, hb2, hgb, hr⟩
  · cases h0
  · injection hv with h1 h2 h3
    injection h1 with h1
    injection h1 with h1
    subst h1 h3
    exact .inr ⟨g, c, cur, rfl, hb2, hb.trans hgb, hr⟩
/-- The last one is cut off. -/
theorem RowAt.pop {w : World} {base g n c : Nat} {ps : List (K4 × K4)} {p : K4 × K4} (h : RowAt w base g (n + 1) c (ps ++ [p])) (hn : ps.length = n) : RowAt w base g n c ps := by
  refine ⟨by rw [rowP_length, hn], ?_⟩
  rcases h.2 with ⟨h0, _⟩ | ⟨g2, c2, cur, hv, hb2, hgb, hnc, hcm, hcs, ht⟩
  · cases h0
  · injection hv with h1 h2 h3
    injection h1 with h1
    injection h1 with h1
    subst h1 h3
    refine .inr ⟨g, c, cur, rfl, hb2, hgb, by omega, hcm, hcs, ?_⟩
    have h4 := congrArg (List.take (n * 8)) ht
    rw [List.take_take, rowP_append, List.take_append_of_le_length (by rw [rowP_length]; omega), show min (n * 8) ((n + 1) * 8) = n * 8 by omega] at h4
    rw [h4, List.take_of_length_le (by rw [rowP_length]; omega)]
/-- The cells of the last one. -/
theorem RowAt.last {w : World} {base g n c : Nat} {ps : List (K4 × K4)} {p : K4 × K4} (h : RowAt w base g (n + 1) c (ps ++ [p])) (hn : ps.length = n) {i : Nat} (hi : i < 8) : w.cell? ⟨g, n * 8 + i, none⟩ = (prC p)[i]? := by
  have h1 : (rowP (ps ++ [p]))[n * 8 + i]? = (prC p)[i]? := by
    rw [rowP_append, rowP_one1, List.getElem?_append_right (by rw [rowP_length]; omega), rowP_length, hn, show n * 8 + i - n * 8 = i by omega]
  have hl : i < (prC p).length := by rw [prC_length]; exact hi
  rw [List.getElem?_eq_getElem hl] at h1 ⊢
  have := World.ownsRow.cells h (g := g) rfl (n * 8 + i) _ h1
  rwa [show ((⟨g, 0, none⟩ : Addr).add (n * 8 + i)) = ⟨g, n * 8 + i, none⟩ from by unfold Addr.add; split <;> simp_all] at this
theorem RowAt.made {w : World} {base : Nat} (p : K4 × K4) (hb : base ≤ w.heap.size) : RowAt (w.alloc (.cells (prC p).toArray 42)) base w.heap.size 1 1 [p] :=
  ⟨by rw [rowP_length]; rfl, .inr ⟨w.heap.size, 1, (prC p).toArray, rfl, hb, World.alloc_heap_new w _, Nat.le_refl _, by simp [maxLen], rfl, by rw [rowP_one1]; rfl⟩⟩

theorem wp_namedP {ops : Array Oper} {o : Oper} {a : Act} {Y : World} {K : Act → World → Prop} {Q : Exit → Act → World → Prop} {E : Prop}
    (h : ∀ Z, Z = Y → if Region.wanted o (yielded ops a.tmps) = true then Oper.wp Try.prog o a Z K Q else E) : if Region.wanted o (yielded ops a.tmps) = true then Oper.wp Try.prog o a Y K Q else E := h Y rfl
/-- append of a pair onto a row of one's own, as a step of a region that draws. -/
theorem step_ownP {ops : Array Oper} {o : Oper} {a : Act} {Y : World} {K : Act → World → Prop} {Q : Exit → Act → World → Prop} {E : Prop}
    (hg : o.guard = none) (s x : Operand) (hop : o.op = Op.call { callee := Callee.builtin Builtin.append, args := #[s, x], argTypes := #[43, 43] })
    (B g n c : Nat) (ds : List (K4 × K4)) (hown : RowAt Y B g n c ds) (hs : a.eval s = .slice (some ⟨g, 0, none⟩) n c)
    (g2 c2 : Nat) (d : K4 × K4) (hblk : Y.heap[g2]? = some (.cells (prC d).toArray 42)) (hx : a.eval x = .slice (some ⟨g2, 0, none⟩) 1 c2) (b1 : n ≤ 2 ^ 31) (hB : B ≤ Y.heap.size)
    (hK : ∀ g' cap' Z, RowAt Z B g' (n + 1) cap' (ds ++ [d]) → Y.grownBy Z (some g) → (g' = g ∨ g' = Y.heap.size) → K (a.put o.dst (.slice (some ⟨g', 0, none⟩) (n + 1) cap')) Z) :
    if Region.wanted o (yielded ops a.tmps) = true then Oper.wp Try.prog o a Y K Q else E := by
  obtain ⟨i0, hi, hzz⟩ := Option.map_eq_some_iff.1 infoP
  simp only [Prod.mk.injEq] at hzz
  obtain ⟨hz0, hz1, hz2⟩ := hzz
  have hw : Region.wanted o (yielded ops a.tmps) = true := by simp [Region.wanted, hg]
  rw [if_pos hw]
  obtain ⟨v', w', hrun, r1, r2, _, r4⟩ := run_append_own_at (P := Try.prog) Y B 43 o.type 42 i0 _ 8 112 Try.underlying43 hi hz0 hz1 hz2 rfl (by decide) _ n (rowP ds) hown ⟨g2, 0, none⟩ 1 c2 (prC d) rfl
    (fun j u hj => by
      have hp : (⟨g2, 0, none⟩ : Addr).add j = ⟨g2, 0 + j, none⟩ := by unfold Addr.add; split <;> simp_all
      have hcell : Y.cell? ⟨g2, j, none⟩ = (prC d).toArray[j]? := by simp [World.cell?, hblk]
      rw [hp, Nat.zero_add, hcell, List.getElem?_toArray]; exact hj)
    (prC_one d) (by unfold maxLen; omega) (by omega) hB
  obtain ⟨g', cap', rfl, _, r5⟩ := r1.form (by omega)
  unfold Oper.wp
  simp [execOp, hop, resolve, invoke, builtin, hs, hx, hrun, Result.andThen]
  have r6 : g' = g ∨ g' = Y.heap.size := by
    rcases r4 with h | h
    · simp [Value.ownBlock] at h; exact .inl h
    · simp [Value.ownBlock] at h; exact .inr h
  exact hK g' cap' w' (by unfold RowAt; rw [rowP_append, rowP_one1]; exact r1) r2 r6
end Go.Proofs.Ytkllhnhinealfaa
