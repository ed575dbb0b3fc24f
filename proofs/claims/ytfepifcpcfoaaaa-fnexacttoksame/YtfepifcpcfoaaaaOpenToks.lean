/-
  How lists of words that come in are read.
-/
import Derived.Test.YtfepifcpcfoaaaaTokLaws
import Derived.OpenShut
import Derived.Deep.Slices
import Derived.Deep.Strs
namespace Go.Proofs.Ytfepifcpcfoaaaa
open Go.RowKit Go.Deep Go.WideShapes

theorem cellsTok : Try.prog.cellsOf 45 = 3 := by kernel_rfl
theorem cellsI : Try.prog.cellsOf 3 = 1 := by kernel_rfl
theorem cellsS : Try.prog.cellsOf 9 = 1 := by kernel_rfl

theorem isToks_of {w : World} {a : Addr} {len : Nat} (hm : len ≤ maxLen) (q : Nat → Tv) (h : ∀ i, i < len → w.cell? (a.add (i * 3)) = some (.int .i64 (q i).1) ∧ w.cell? (a.add (i * 3 + 1)) = some (.string (q i).2.1) ∧ w.cell? (a.add (i * 3 + 2)) = some (.int .i64 (q i).2.2) ∧ (q i).2.1.size ≤ maxLen) :
    IsToks w (some a) len ((List.range len).map q) := by
  refine ⟨by simp, hm, ?_, ?_⟩
  · by_cases h0 : len = 0
    · subst h0; exact .inl rfl
    · obtain ⟨b, off, spot⟩ := a
      have hspot : spot = none := by simpa [Addr.add] using World.cell?_spot (h 0 (by omega)).1
      subst hspot
      have hb : b < w.heap.size := by
        have h1 := (h 0 (by omega)).1
        rcases Nat.lt_or_ge b w.heap.size with h | h
        · exact h
        · simp [World.cell?, Addr.add, Array.getElem?_eq_none h] at h1
      refine .inr ⟨b, off, rfl, hb, fun j u hu => ?_⟩
      have hl := rowT_length ((List.range len).map q)
      have hj := (List.getElem?_eq_some_iff.1 hu).1
      rw [hl, List.length_map, List.length_range] at hj
      have h1 := rowT_get ((List.range len).map q) (j / 3) (by simp; omega) (j % 3) (by omega)
      rw [show j / 3 * 3 + j % 3 = j by omega, List.getElem_map, List.getElem_range] at h1
      rw [hu] at h1
      obtain ⟨c0, c1, c2, _⟩ := h (j / 3) (by omega)
      rw [add_plain] at c0 c1 c2
      have h3 : j % 3 = 0 ∨ j % 3 = 1 ∨ j % 3 = 2 := by omega
      rcases h3 with e | e | e
      · rw [e] at h1
        simp [tvC] at h1
        rw [h1, show off + j = off + j / 3 * 3 by omega]; exact c0
      · rw [e] at h1
        simp [tvC] at h1
        rw [h1, show off + j = off + (j / 3 * 3 + 1) by omega]; exact c1
      · rw [e] at h1
        simp [tvC] at h1
        rw [h1, show off + j = off + (j / 3 * 3 + 2) by omega]; exact c2
  · intro x hx
    obtain ⟨i, hi, rfl⟩ := List.mem_map.1 hx
    exact (h i (List.mem_range.1 hi)).2.2.2

theorem open_toks {H : Type} {enc : TypeId × Value → H} {w : World} {base : Nat} {spare : Nat → Bool} {held : Bool} {fuel : Nat} {v : Value} {x : DataW H × List MemPlace} (h : DataW.trod enc Try.prog w base spare held fuel 36 [v] = some x) {A : Option Addr} {len cap : Nat} (hv : v = .slice A len cap) :
    ∃ xs, IsToks w A len xs ∧ len ≤ cap := by
  subst hv
  rcases open_slice Try.underlying36 h with ⟨h0, _⟩ | ⟨a, l, c, m, n, D, Pl, h0, hb, hl, hm, hmm, _, hx⟩
  · simp at h0
    obtain ⟨rfl, rfl, rfl⟩ := h0
    exact ⟨[], isToks_nil w, Nat.le_refl _⟩
  · simp at h0
    obtain ⟨rfl, rfl, rfl⟩ := h0
    have hlm : len ≤ m := by rw [hmm]; split <;> omega
    have each : ∀ i, i < len → ∃ q : Tv, w.cell? (a.add (i * 3)) = some (.int .i64 q.1) ∧ w.cell? (a.add (i * 3 + 1)) = some (.string q.2.1) ∧ w.cell? (a.add (i * 3 + 2)) = some (.int .i64 q.2.2) ∧ q.2.1.size ≤ maxLen := by
      intro i hi
      obtain ⟨cs', h1, h2⟩ := hx i (by omega)
      rw [cellsTok] at h1
      obtain ⟨_, hlen, hcell⟩ := World.cells?_some h1
      obtain ⟨y0, y1, y2, n', _, _, g0, g1, g2⟩ := trod_struct3 Try.underlying45 h2
      match cs', hlen with
      | [v0, v1, v2], _ =>
        simp [cellsI, cellsS] at g0 g1 g2
        have e0 := hcell 0 (by omega)
        have e1 := hcell 1 (by omega)
        have e2 := hcell 2 (by omega)
        rw [add_add] at e0 e1 e2
        obtain ⟨k0, r0, _, _⟩ := DataW.trod_int Try.underlying3 g0
        obtain ⟨k2, r2, _, _⟩ := DataW.trod_int Try.underlying3 g2
        obtain ⟨k1, r1, _, hs⟩ := DataW.trod_string Try.underlying9 g1
        simp at r0 r1 r2
        subst r0 r1 r2
        exact ⟨(k0, k1, k2), by simpa using e0, by simpa using e1, by simpa using e2, hs⟩
    obtain ⟨q, hq⟩ := choose_lt each
    exact ⟨_, isToks_of (by omega) q hq, hl⟩
end Go.Proofs.Ytfepifcpcfoaaaa
