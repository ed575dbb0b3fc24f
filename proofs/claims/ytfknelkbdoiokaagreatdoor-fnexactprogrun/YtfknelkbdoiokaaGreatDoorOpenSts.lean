/-
  How a row of lines comes in.
-/
import Derived.Test.YtfknelkbdoiokaaGreatDoorOpenSt
import Derived.Test.YtfknelkbdoiokaaGreatDoorStList
import Derived.OpenShut
import Derived.Deep.Slices
namespace Go.Proofs.YtfknelkbdoiokaaGreatDoor
open Go.RowKit Go.Deep Go.WideShapes

/-- What came in is these. -/
def InSts (w : World) (A : Option Addr) (c : Nat) (xs : List St) : Prop := stFits xs ∧ xs.length ≤ maxLen ∧ LinesAt w w.heap.size A xs ∧ xs.length ≤ c
theorem array11L {cs : List Value} (h : cs.length = 11) : ∃ a b c d e f g i j k l : Value, cs = [a, b, c, d, e, f, g, i, j, k, l] := by
  match cs, h with
  | [a, b, c, d, e, f, g, i, j, k, l], _ => exact ⟨a, b, c, d, e, f, g, i, j, k, l, rfl⟩
set_option maxRecDepth 100000 in
theorem open_stmt_cells {H : Type} {enc : TypeId × Value → H} {w : World} {base : Nat} {spare : Nat → Bool} {held : Bool} {fuel : Nat} {z0 z1 z2 z3 z4 z5 z6 z7 z8 z9 z10 : Value} {x : DataW H × List MemPlace} (hf0 : DataW.trod enc Tryz.prog w base spare held fuel 77 [z0, z1, z2, z3, z4, z5, z6, z7, z8, z9, z10] = some x) :
    ∃ (s : St) (A1 : Option Addr) (c1 : Nat) (A2 : Option Addr) (c2 : Nat), [z0, z1, z2, z3, z4, z5, z6, z7, z8, z9, z10] = [.int .i64 s.kind, .string s.name, .string s.typ, .int .i64 s.e.kind, .int .i64 s.e.n, .string s.e.s, .slice A1 s.e.kids.length c1, .int .i64 s.t.kind, .int .i64 s.t.n, .string s.t.s, .slice A2 s.t.kids.length c2] ∧ InSt w A1 c1 A2 c2 s := by
  obtain ⟨xs, n', hn', _, _, hxl, hf⟩ := DataW.trod_struct Tryz.underlying77 hf0
  have f0 := hf 0 _ rfl
  have f1 := hf 1 _ rfl
  have f2 := hf 2 _ rfl
  have f3 := hf 3 _ rfl
  have f4 := hf 4 _ rfl
  simp only [List.size_toArray, List.length_cons, List.length_nil] at hxl
  rw [List.getElem?_eq_getElem (by omega)] at f0 f1 f2 f3 f4
  simp [cellsExI, cellsExS, cellsEx] at f0 f1 f2 f3 f4
  obtain ⟨k0, r0, _, _⟩ := DataW.trod_int Tryz.underlying3 f0
  obtain ⟨k1, r1, _, hs1⟩ := DataW.trod_string Tryz.underlying9 f1
  obtain ⟨k2, r2, _, hs2⟩ := DataW.trod_string Tryz.underlying9 f2
  simp at r0 r1 r2
  subst r0 r1 r2
  obtain ⟨e, A1, c1, e0, e1, e2, e3, hE⟩ := open_ex4 f3
  obtain ⟨t, A2, c2, t0, t1, t2, t3, hT⟩ := open_ex4 f4
  subst e0 e1 e2 e3 t0 t1 t2 t3
  exact ⟨⟨k0, k1, k2, e, t⟩, A1, c1, A2, c2, rfl, ⟨hs1, hs2, hE.1, hT.1⟩, hE.2.1, hT.2.1, hE.2.2, hT.2.2⟩
theorem open_stmts {H : Type} {enc : TypeId × Value → H} {w : World} {base : Nat} {spare : Nat → Bool} {held : Bool} {fuel : Nat} {v : Value} {x : DataW H × List MemPlace} (h : DataW.trod enc Tryz.prog w base spare held fuel 61 [v] = some x) {A : Option Addr} {len cap : Nat} (hv : v = .slice A len cap) :
    ∃ xs, xs.length = len ∧ InSts w A cap xs := by
  subst hv
  rcases open_slice Tryz.underlying61 h with ⟨h0, _⟩ | ⟨a, l, c, m, n, D, Pl, h0, hb, hl, hm, hmm, _, hx⟩
  · simp at h0
    obtain ⟨rfl, rfl, rfl⟩ := h0
    exact ⟨[], rfl, fun s hs => by simp at hs, by simp [maxLen], .inl rfl, Nat.le_refl _⟩
  · simp at h0
    obtain ⟨rfl, rfl, rfl⟩ := h0
    have hlm : len ≤ m := by rw [hmm]; split <;> omega
    have each : ∀ i, i < len → ∃ q : St × (Option Addr × Nat) × (Option Addr × Nat), (w.cell? (a.add (i * 11)) = some (.int .i64 q.1.kind) ∧ w.cell? (a.add (i * 11 + 1)) = some (.string q.1.name) ∧ w.cell? (a.add (i * 11 + 2)) = some (.string q.1.typ) ∧ w.cell? (a.add (i * 11 + 3)) = some (.int .i64 q.1.e.kind) ∧ w.cell? (a.add (i * 11 + 4)) = some (.int .i64 q.1.e.n) ∧ w.cell? (a.add (i * 11 + 5)) = some (.string q.1.e.s) ∧ w.cell? (a.add (i * 11 + 6)) = some (.slice q.2.1.1 q.1.e.kids.length q.2.1.2) ∧ w.cell? (a.add (i * 11 + 7)) = some (.int .i64 q.1.t.kind) ∧ w.cell? (a.add (i * 11 + 8)) = some (.int .i64 q.1.t.n) ∧ w.cell? (a.add (i * 11 + 9)) = some (.string q.1.t.s) ∧ w.cell? (a.add (i * 11 + 10)) = some (.slice q.2.2.1 q.1.t.kids.length q.2.2.2)) ∧ InSt w q.2.1.1 q.2.1.2 q.2.2.1 q.2.2.2 q.1 := by
      intro i hi
      obtain ⟨cs', h1, h2⟩ := hx i (by omega)
      rw [cellsSt] at h1
      obtain ⟨_, hlen, hcell⟩ := World.cells?_some h1
      obtain ⟨z0, z1, z2, z3, z4, z5, z6, z7, z8, z9, z10, rfl⟩ := array11L hlen
      obtain ⟨s, A1, c1, A2, c2, hz, hin⟩ := open_stmt_cells h2
      have e0 := hcell 0 (by omega)
      have e1 := hcell 1 (by omega)
      have e2 := hcell 2 (by omega)
      have e3 := hcell 3 (by omega)
      have e4 := hcell 4 (by omega)
      have e5 := hcell 5 (by omega)
      have e6 := hcell 6 (by omega)
      have e7 := hcell 7 (by omega)
      have e8 := hcell 8 (by omega)
      have e9 := hcell 9 (by omega)
      have e10 := hcell 10 (by omega)
      rw [add_add] at e0 e1 e2 e3 e4 e5 e6 e7 e8 e9 e10
      injection hz with g0 hz
      injection hz with g1 hz
      injection hz with g2 hz
      injection hz with g3 hz
      injection hz with g4 hz
      injection hz with g5 hz
      injection hz with g6 hz
      injection hz with g7 hz
      injection hz with g8 hz
      injection hz with g9 hz
      injection hz with g10 hz
      subst g0 g1 g2 g3 g4 g5 g6 g7 g8 g9 g10
      exact ⟨(s, (A1, c1), (A2, c2)), ⟨by simpa using e0, by simpa using e1, by simpa using e2, by simpa using e3, by simpa using e4, by simpa using e5, by simpa using e6, by simpa using e7, by simpa using e8, by simpa using e9, by simpa using e10⟩, hin⟩
    haveI : Inhabited (St × (Option Addr × Nat) × (Option Addr × Nat)) := ⟨(⟨0, ByteArray.empty, ByteArray.empty, Ex.zero, Ex.zero⟩, (none, 0), (none, 0))⟩
    obtain ⟨q, hq⟩ := choose_lt each
    refine ⟨(List.range len).map (fun i => (q i).1), by simp, ?_, by simp; omega, ?_, by simpa using hl⟩
    · intro s hs
      obtain ⟨i, hi, rfl⟩ := List.mem_map.1 hs
      exact (hq i (List.mem_range.1 hi)).2.1
    · by_cases h0 : len = 0
      · subst h0; exact .inl rfl
      · obtain ⟨b, off, spot⟩ := a
        have hspot : spot = none := by simpa [Addr.add] using World.cell?_spot (hq 0 (by omega)).1.1
        subst hspot
        have hb : b < w.heap.size := by
          have h1 := (hq 0 (by omega)).1.1
          rcases Nat.lt_or_ge b w.heap.size with h | h
          · exact h
          · simp [World.cell?, Addr.add, Array.getElem?_eq_none h] at h1
        refine .inr ⟨b, off, rfl, hb, fun j hj => ?_⟩
        have hj' : j < len := by simpa using hj
        obtain ⟨⟨c0, c1, c2, c3, c4, c5, c6, c7, c8, c9, c10⟩, hf, k1, k2, l1, l2⟩ := hq j hj'
        rw [add_plain] at c0 c1 c2 c3 c4 c5 c6 c7 c8 c9 c10
        simp only [List.getElem_map, List.getElem_range]
        exact ⟨(q j).2.1.1, (q j).2.1.2, (q j).2.2.1, (q j).2.2.2, ⟨⟨c0, c1, c2, c3, c4, c5, c6, c7, c8, c9, c10⟩, l1, l2⟩, k1, k2⟩
end Go.Proofs.YtfknelkbdoiokaaGreatDoor
