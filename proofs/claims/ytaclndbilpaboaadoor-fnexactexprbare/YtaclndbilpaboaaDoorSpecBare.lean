/-
  The contract of the model's l4Bare and ExprBare: it without types, in memory that was not there before.
-/
import Derived.Test.YtaclndbilpaboaaDoorOwnMk
import Derived.Test.YtaclndbilpaboaaDoorKidsS
import Derived.Test.YtaclndbilpaboaaDoorOwnLaws
import Derived.Test.YtaclndbilpaboaaDoorSet4
import Derived.Test.YtaclndbilpaboaaDoorSpecMany
import Derived.Test.YtaclndbilpaboaaDoorExprOk
import Derived.Deep.RegionLawGrows
namespace Go.Proofs.YtaclndbilpaboaaDoor
open Go.RowKit

/-- The model gives the part without types. -/
def SBare (p : Pt) : Prop := ∀ (A : Option Addr) (c B : Nat) (w : World), KidsAt w B A p.ex.kids → p.ex.kids.length ≤ c → B ≤ w.heap.size →
    Calls Tryd.prog 32 #[.agg #[.int .i64 p.ex.kind, .int .i64 p.ex.n, .string p.ex.s, .slice A p.ex.kids.length c]] w (GivesS p.bare.ex w)

/-- append of a kid onto a row of one's own, as a step of a region that draws. -/
theorem step_ownK {ops : Array Oper} {o : Oper} {a : Act} {Y : World} {K : Act → World → Prop} {Q : Exit → Act → World → Prop} {E : Prop}
    (hg : o.guard = none) (s x : Operand) (hop : o.op = Op.call { callee := Callee.builtin Builtin.append, args := #[s, x], argTypes := #[27, 27] })
    (B n : Nat) (v : Value) (ds : List Kd) (hown : Y.ownsRow B 29 4 v n (rowK ds)) (hs : a.eval s = v)
    (g c : Nat) (d : Kd) (hblk : Blk Y g (kdC d).toArray) (hx : a.eval x = .slice (some ⟨g, 0, none⟩) 1 c) (b1 : n ≤ 100000) (hB : B ≤ Y.heap.size)
    (hK : ∀ g' cap' Z, Z.ownsRow B 29 4 (.slice (some ⟨g', 0, none⟩) (n + 1) cap') (n + 1) (rowK (ds ++ [d])) → Y.grownBy Z v.ownBlock → (some g' = v.ownBlock ∨ g' = Y.heap.size) → g' < Z.heap.size → K (a.put o.dst (.slice (some ⟨g', 0, none⟩) (n + 1) cap')) Z) :
    if Region.wanted o (yielded ops a.tmps) = true then Oper.wp Tryd.prog o a Y K Q else E := by
  obtain ⟨i0, hi, hzz⟩ := Option.map_eq_some_iff.1 infoEx
  simp only [Prod.mk.injEq] at hzz
  obtain ⟨hz0, hz1, hz2⟩ := hzz
  have hw : Region.wanted o (yielded ops a.tmps) = true := by simp [Region.wanted, hg]
  rw [if_pos hw]
  obtain ⟨v', w', hrun, r1, r2, _, r4⟩ := run_append_own_at (P := Tryd.prog) Y B 27 o.type 29 i0 (.agg zeroC) 4 56 Tryd.underlying27 hi hz0 hz1 hz2 rfl (by decide) v n (rowK ds) hown ⟨g, 0, none⟩ 1 c (kdC d) rfl
    (fun j u hj => by
      have hp : (⟨g, 0, none⟩ : Addr).add j = ⟨g, 0 + j, none⟩ := by unfold Addr.add; split <;> simp_all
      rw [hp, Nat.zero_add, hblk.cell, List.getElem?_toArray]; exact hj)
    (by intro u hu; simp [kdC, kidCells] at hu; rcases hu with rfl | rfl | rfl | rfl <;> rfl) (by unfold maxLen; omega) (by omega) hB
  obtain ⟨g', cap', rfl, _, r5⟩ := r1.form (by omega)
  unfold Oper.wp
  simp [execOp, hop, resolve, invoke, builtin, hs, hx, hrun, Result.andThen]
  have r6 : some g' = v.ownBlock ∨ g' = Y.heap.size := by
    rcases r4 with h | h
    · exact .inl (by rw [← h]; rfl)
    · simp [Value.ownBlock] at h; exact .inr h
  exact hK g' cap' w' (by rw [rowK_append, rowK_one]; exact r1) r2 r6 r5

theorem calls_named {f : Nat} {args : Array Value} {Y : World} {R : Ending → World → Prop} (h : ∀ Z, Z = Y → Calls Tryd.prog f args Z R) : Calls Tryd.prog f args Y R := h Y rfl
theorem wp_named {ops : Array Oper} {o : Oper} {a : Act} {Y : World} {K : Act → World → Prop} {Q : Exit → Act → World → Prop} {E : Prop}
    (h : ∀ Z, Z = Y → if Region.wanted o (yielded ops a.tmps) = true then Oper.wp Tryd.prog o a Z K Q else E) : if Region.wanted o (yielded ops a.tmps) = true then Oper.wp Tryd.prog o a Y K Q else E := h Y rfl
theorem own_belowK {w w' : World} {base : Nat} {e : TypeId} {size : Nat} {v : Value} {n : Nat} {xs : List Value} (h : w.ownsRow base e size v n xs) (hb : Below w.heap.size w w') : w'.ownsRow base e size v n xs := own_below h hb
theorem ownK_slice {w : World} {B : Nat} {v : Value} {n : Nat} {xs : List Value} (h : w.ownsRow B 29 4 v n xs) : ∃ A c, v = .slice A n c ∧ n ≤ c ∧ ((A = none ∧ n = 0) ∨ ∃ g, A = some ⟨g, 0, none⟩ ∧ B ≤ g ∧ g < w.heap.size) := by
  rcases h.2 with ⟨rfl, rfl⟩ | ⟨g, cap, _, rfl, hb, hg, hc, _⟩
  · exact ⟨none, 0, rfl, Nat.le_refl _, .inl ⟨rfl, rfl⟩⟩
  · exact ⟨_, cap, rfl, hc, .inr ⟨g, rfl, hb, (Array.getElem?_eq_some_iff.1 hg).1⟩⟩

set_option maxRecDepth 100000 in
set_option maxHeartbeats 4000000 in
theorem l4Bare_as (s : ByteArray) (a : Pt) (ia : SBare a) : SBare (.as s a) := by
  intro A c B w hA hc hB
  show Calls Tryd.prog 32 #[.agg #[.int .i64 4, .int .i64 0, .string s, .slice A 1 c]] w (GivesS a.bare.ex w)
  simp only [Pt.ex, Ex.kids, List.length_cons, List.length_nil, Nat.zero_add] at hA hc
  obtain ⟨g0, off, D0, cc0, e0, hg0, kid0⟩ := hA.at_ (j := 0) (by simp)
  subst e0
  obtain ⟨a0, a1, a2, a3, a4, a5⟩ := kid0
  simp only [List.getElem_cons_zero, Nat.zero_mul, Nat.add_zero] at a0 a1 a2 a3 a4 a5
  obtain ⟨W0, hW0⟩ : ∃ W0, W0 = (w.alloc (.cells #[.int .i64 4, .int .i64 0, .string s, .slice (some ⟨g0, off, none⟩) 1 c] 29)).alloc (.cells #[.int .i64 0, .int .i64 0, .string { data := #[] }, .slice none 0 0] 29) := ⟨_, rfl⟩
  have hb0 : Below w.heap.size w W0 := by rw [hW0]; exact ((Below.refl _ w).alloc (Nat.le_refl _) _).alloc (by simp) _
  have hs0 : w.heap.size + 1 < W0.heap.size := by rw [hW0]; simp
  have hB0 : Blk W0 (w.heap.size + 1) #[.int .i64 0, .int .i64 0, .string { data := #[] }, .slice none 0 0] := by
    have := World.alloc_heap_new (w.alloc (.cells #[.int .i64 4, .int .i64 0, .string s, .slice (some ⟨g0, off, none⟩) 1 c] 29)) (.cells #[.int .i64 0, .int .i64 0, .string { data := #[] }, .slice none 0 0] 29)
    rw [World.size_alloc] at this
    rw [hW0]; exact this
  have hltg : g0 < w.heap.size := by omega
  have y0 := (hb0.cell (p := ⟨g0, off, none⟩) hltg).trans a0
  have y1 := (hb0.cell (p := ⟨g0, off + 1, none⟩) hltg).trans a1
  have y2 := (hb0.cell (p := ⟨g0, off + 2, none⟩) hltg).trans a2
  have y3 := (hb0.cell (p := ⟨g0, off + 3, none⟩) hltg).trans a3
  have HC := Lib.hid (ia D0 cc0 B W0 (a5.keep (hb0.mono hB)) a4 (Nat.le_trans hB hb0.size))
  generalize a.ex = x at *
  generalize a.bare.ex = y at *
  clear ia hA a5 a0 a1 a2 a3
  rw [hW0] at y0 y1 y2 y3
  go_enter Tryd.func32, Tryd.ntmps32
  go_wp2_with fail
  rw [← hW0]
  refine HC.out.mono ?_
  rintro r w3 ⟨A3, c3, rfl, hc3, hK3, hb3⟩
  have hB1 : Blk w3 (w.heap.size + 1) #[.int .i64 0, .int .i64 0, .string { data := #[] }, .slice none 0 0] := (hb3.block _ hs0).trans hB0
  have x0 := hB1.cell 0
  have x1 := hB1.cell 1
  have x2 := hB1.cell 2
  have x3 := hB1.cell 3
  have q0 := hB1.frozen 0
  have q1 := hB1.frozen 1
  have q2 := hB1.frozen 2
  have q3 := hB1.frozen 3
  simp only [List.getElem?_toArray, List.getElem?_cons_zero, List.getElem?_cons_succ] at x0 x1 x2 x3
  have HBN := Lib.hid (blk_set4 (.int .i64 y.kind) (.int .i64 y.n) (.string y.s) (.slice A3 y.kids.length c3) hB1)
  have hz0 := hb0.size
  have hz3 := hb3.size
  have HK := Lib.hid hK3
  clear hB1 hB0 hK3 hW0 y0 y1 y2 y3
  go_wp2_with fail
  obtain ⟨wn, hwn⟩ : ∃ wn, wn = (((w3.setCell ⟨w.heap.size + 1, 0, none⟩ (.int .i64 y.kind)).setCell ⟨w.heap.size + 1, 1, none⟩ (.int .i64 y.n)).setCell ⟨w.heap.size + 1, 2, none⟩ (.string y.s)).setCell ⟨w.heap.size + 1, 3, none⟩ (.slice A3 y.kids.length c3) := ⟨_, rfl⟩
  have hBn := HBN.out
  have hsame : ∀ k, k ≠ w.heap.size + 1 → wn.heap[k]? = w3.heap[k]? := fun k hk => by rw [hwn]; exact heap_set4 _ _ _ _ _ _ _ hk
  have hzn : wn.heap.size = w3.heap.size := by rw [hwn]; exact size_set4 _ _ _ _ _ _
  rw [← hwn] at hBn ⊢
  have r0 := hBn.cell 0
  have r1 := hBn.cell 1
  have r2 := hBn.cell 2
  have r3 := hBn.cell 3
  simp only [List.getElem?_toArray, List.getElem?_cons_zero, List.getElem?_cons_succ] at r0 r1 r2 r3
  refine bodyPost_ret (v := .agg #[.int .i64 y.kind, .int .i64 y.n, .string y.s, .slice A3 y.kids.length c3]) (by simp [results, Tryd.results32, go_sem, r0, r1, r2, r3]) rfl ?_
  exact ⟨A3, c3, rfl, hc3, HK.out.keep (fun b h => ⟨by omega, by omega⟩) (fun b h => hsame b (by omega)), hb0.trans ((hb3.mono hz0).trans ⟨by rw [hwn]; rfl, by rw [hwn]; rfl, by rw [hwn]; rfl, by omega, fun k hk => hsame k (by omega)⟩)⟩
end Go.Proofs.YtaclndbilpaboaaDoor
