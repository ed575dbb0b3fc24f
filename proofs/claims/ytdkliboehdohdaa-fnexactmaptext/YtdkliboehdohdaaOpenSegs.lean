/-
  How lists of Seg that come in are read.
-/
import Derived.Test.YtdkliboehdohdaaSegs
import Derived.OpenShut
import Derived.Deep.Slices
import Derived.Deep.Strs
namespace Go.Proofs.Ytdkliboehdohdaa
open Go.RowKit Go.Deep Go.WideShapes Go.ChangeShapes

theorem cellsSeg : Try.prog.cellsOf 50 = 4 := by kernel_rfl
theorem cellsPosL : Try.prog.cellsOf 30 = 2 := by kernel_rfl
theorem cellsI : Try.prog.cellsOf 3 = 1 := by kernel_rfl

theorem isSegs_of {w : World} {a : Addr} {len : Nat} (hm : len ≤ maxLen) (q : Nat → Sg) (h : ∀ i, i < len → w.cell? (a.add (i * 4)) = some (.int .i64 (q i).1) ∧ w.cell? (a.add (i * 4 + 1)) = some (.int .i64 (q i).2.1) ∧ w.cell? (a.add (i * 4 + 2)) = some (.int .i64 (q i).2.2.1) ∧ w.cell? (a.add (i * 4 + 3)) = some (.int .i64 (q i).2.2.2)) :
    IsSegs w (some a) len ((List.range len).map q) := by
  refine ⟨by simp, hm, ?_⟩
  by_cases h0 : len = 0
  · subst h0; exact .inl rfl
  · obtain ⟨b, off, spot⟩ := a
    have hspot : spot = none := by simpa [Addr.add] using World.cell?_spot (h 0 (by omega)).1
    subst hspot
    have hb : b < w.heap.size := by
      have h1 := (h 0 (by omega)).1
      rcases Nat.lt_or_ge b w.heap.size with h | h
      · exact h
      · simp [World.cell?, Addr.add, Array.getElem?_eq_none h] at h1
    refine .inr ⟨b, off, rfl, hb, fun j u hu => ?_⟩
    have hl := rowG_length ((List.range len).map q)
    have hj := (List.getElem?_eq_some_iff.1 hu).1
    rw [hl, List.length_map, List.length_range] at hj
    have h1 := rowG_get ((List.range len).map q) (j / 4) (by simp; omega) (j % 4) (by omega)
    rw [show j / 4 * 4 + j % 4 = j by omega, List.getElem_map, List.getElem_range] at h1
    rw [hu] at h1
    obtain ⟨c0, c1, c2, c3⟩ := h (j / 4) (by omega)
    rw [add_plain] at c0 c1 c2 c3
    have h3 : j % 4 = 0 ∨ j % 4 = 1 ∨ j % 4 = 2 ∨ j % 4 = 3 := by omega
    rcases h3 with e | e | e | e
    · rw [e] at h1
      simp [sgC] at h1
      rw [h1, show off + j = off + j / 4 * 4 by omega]; exact c0
    · rw [e] at h1
      simp [sgC] at h1
      rw [h1, show off + j = off + (j / 4 * 4 + 1) by omega]; exact c1
    · rw [e] at h1
      simp [sgC] at h1
      rw [h1, show off + j = off + (j / 4 * 4 + 2) by omega]; exact c2
    · rw [e] at h1
      simp [sgC] at h1
      rw [h1, show off + j = off + (j / 4 * 4 + 3) by omega]; exact c3

theorem open_segs {H : Type} {enc : TypeId × Value → H} {w : World} {base : Nat} {spare : Nat → Bool} {held : Bool} {fuel : Nat} {v : Value} {x : DataW H × List MemPlace} (h : DataW.trod enc Try.prog w base spare held fuel 22 [v] = some x) {A : Option Addr} {len cap : Nat} (hv : v = .slice A len cap) :
    ∃ xs, IsSegs w A len xs ∧ len ≤ cap := by
  subst hv
  rcases open_slice Try.underlying22 h with ⟨h0, _⟩ | ⟨a, l, c, m, n, D, Pl, h0, hb, hl, hm, hmm, _, hx⟩
  · simp at h0
    obtain ⟨rfl, rfl, rfl⟩ := h0
    exact ⟨[], isSegs_nil w, Nat.le_refl _⟩
  · simp at h0
    obtain ⟨rfl, rfl, rfl⟩ := h0
    have hlm : len ≤ m := by rw [hmm]; split <;> omega
    have each : ∀ i, i < len → ∃ q : Sg, w.cell? (a.add (i * 4)) = some (.int .i64 q.1) ∧ w.cell? (a.add (i * 4 + 1)) = some (.int .i64 q.2.1) ∧ w.cell? (a.add (i * 4 + 2)) = some (.int .i64 q.2.2.1) ∧ w.cell? (a.add (i * 4 + 3)) = some (.int .i64 q.2.2.2) := by
      intro i hi
      obtain ⟨cs', h1, h2⟩ := hx i (by omega)
      rw [cellsSeg] at h1
      obtain ⟨_, hlen, hcell⟩ := World.cells?_some h1
      obtain ⟨y0, y1, n', _, _, g0, g1⟩ := trod_struct2 Try.underlying50 h2
      match cs', hlen with
      | [v0, v1, v2, v3], _ =>
        simp [cellsPosL] at g0 g1
        have e0 := hcell 0 (by omega)
        have e1 := hcell 1 (by omega)
        have e2 := hcell 2 (by omega)
        have e3 := hcell 3 (by omega)
        rw [add_add] at e0 e1 e2 e3
        obtain ⟨z0, z1, n0, _, _, p0, p1⟩ := trod_struct2 Try.underlying30 g0
        obtain ⟨z2, z3, n1, _, _, p2, p3⟩ := trod_struct2 Try.underlying30 g1
        simp [cellsI] at p0 p1 p2 p3
        obtain ⟨k0, r0, _, _⟩ := DataW.trod_int Try.underlying3 p0
        obtain ⟨k1, r1, _, _⟩ := DataW.trod_int Try.underlying3 p1
        obtain ⟨k2, r2, _, _⟩ := DataW.trod_int Try.underlying3 p2
        obtain ⟨k3, r3, _, _⟩ := DataW.trod_int Try.underlying3 p3
        simp at r0 r1 r2 r3
        subst r0 r1 r2 r3
        exact ⟨(k0, k1, k2, k3), by simpa using e0, by simpa using e1, by simpa using e2, by simpa using e3⟩
    obtain ⟨q, hq⟩ := choose_lt each
    exact ⟨_, isSegs_of (by omega) q hq, hl⟩
end Go.Proofs.Ytdkliboehdohdaa
