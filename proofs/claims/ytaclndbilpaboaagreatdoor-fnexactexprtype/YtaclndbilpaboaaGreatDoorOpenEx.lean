/-
  How what is reckoned comes in.
-/
import Derived.Test.YtaclndbilpaboaaGreatDoorLawsEx
import Derived.OpenShut
import Derived.Deep.Slices
import Derived.Deep.Strs
import Derived.Lib.SmallJoins
namespace Go.Proofs.YtaclndbilpaboaaGreatDoor
open Go.RowKit Go.Deep Go.WideShapes

theorem cellsEx : Tryz.prog.cellsOf 24 = 4 := by kernel_rfl
theorem cellsExI : Tryz.prog.cellsOf 3 = 1 := by kernel_rfl
theorem cellsExS : Tryz.prog.cellsOf 9 = 1 := by kernel_rfl
theorem cellsExK : Tryz.prog.cellsOf 22 = 1 := by kernel_rfl
instance : Inhabited Ex := ⟨Ex.zero⟩

theorem fitss_of {ks : List Ex} (h : ∀ e ∈ ks, e.fits) : Ex.fitss ks := by
  induction ks with
  | nil => trivial
  | cons x xs ih => exact ⟨h x (by simp), ih (fun e he => h e (by simp [he]))⟩
/-- What came in is this one. -/
def InEx (w : World) (A : Option Addr) (c : Nat) (e : Ex) : Prop := e.fits ∧ KidsAt w w.heap.size A e.kids ∧ e.kids.length ≤ c

set_option maxRecDepth 100000 in
theorem open_kids {H : Type} {enc : TypeId × Value → H} {w : World} {base : Nat} {spare : Nat → Bool} {held : Bool} : ∀ (fuel : Nat) (A : Option Addr) (len cap : Nat) (x : DataW H × List MemPlace),
    DataW.trod enc Tryz.prog w base spare held fuel 22 [.slice A len cap] = some x → ∃ ks : List Ex, ks.length = len ∧ KidsAt w w.heap.size A ks ∧ Ex.fitss ks ∧ len ≤ maxLen ∧ len ≤ cap := by
  intro fuel
  induction fuel using Nat.strongRecOn with
  | _ fuel ih =>
    intro A len cap x h
    rcases DataW.trod_slice Tryz.underlying22 h with ⟨h0, _⟩ | ⟨a, l, c, elems, rest, n, hn, h0, _, hb, hl, hm, hlen, hel, _, _⟩
    · simp at h0
      obtain ⟨rfl, rfl, rfl⟩ := h0
      exact ⟨[], rfl, .nil, trivial, by simp [maxLen], Nat.le_refl _⟩
    · simp at h0
      obtain ⟨rfl, rfl, rfl⟩ := h0
      have each : ∀ i, i < len → ∃ q : Ex × Option Addr × Nat, w.cell? (a.add (i * 4)) = some (.int .i64 q.1.kind) ∧ w.cell? (a.add (i * 4 + 1)) = some (.int .i64 q.1.n) ∧ w.cell? (a.add (i * 4 + 2)) = some (.string q.1.s) ∧ w.cell? (a.add (i * 4 + 3)) = some (.slice q.2.1 q.1.kids.length q.2.2) ∧ q.1.kids.length ≤ q.2.2 ∧ KidsAt w w.heap.size q.2.1 q.1.kids ∧ q.1.fits := by
        intro i hi
        have hq := hel i hi
        rw [List.getElem?_eq_getElem (by omega)] at hq
        obtain ⟨cs', h1, h2⟩ := Option.bind_eq_some_iff.1 hq
        rw [cellsEx] at h1
        obtain ⟨_, hcl, hcell⟩ := World.cells?_some h1
        obtain ⟨xs, n', hn', _, _, hxl, hf⟩ := DataW.trod_struct Tryz.underlying24 h2
        match cs', hcl with
        | [v0, v1, v2, v3], _ =>
          have e0 := hcell 0 (by omega)
          have e1 := hcell 1 (by omega)
          have e2 := hcell 2 (by omega)
          have e3 := hcell 3 (by omega)
          rw [add_add] at e0 e1 e2 e3
          have f0 := hf 0 _ rfl
          have f1 := hf 1 _ rfl
          have f2 := hf 2 _ rfl
          have f3 := hf 3 _ rfl
          simp only [List.size_toArray, List.length_cons, List.length_nil] at hxl
          rw [List.getElem?_eq_getElem (by omega)] at f0 f1 f2 f3
          simp [cellsExI, cellsExS, cellsExK] at f0 f1 f2 f3
          obtain ⟨k0, r0, _, _⟩ := DataW.trod_int Tryz.underlying3 f0
          obtain ⟨k1, r1, _, _⟩ := DataW.trod_int Tryz.underlying3 f1
          obtain ⟨k2, r2, _, hs⟩ := DataW.trod_string Tryz.underlying9 f2
          simp at r0 r1 r2
          subst r0 r1 r2
          obtain ⟨A', len', cap', rfl⟩ : ∃ A' len' cap', v3 = .slice A' len' cap' := by
            rcases DataW.trod_slice Tryz.underlying22 f3 with ⟨h0, _⟩ | ⟨a', l', c', _, _, _, _, h0, _⟩
            · simp at h0; exact ⟨_, _, _, h0⟩
            · simp at h0; exact ⟨_, _, _, h0⟩
          obtain ⟨ks', l1, l2, l3, l4, l5⟩ := ih n' (by omega) A' len' cap' _ f3
          subst l1
          exact ⟨(.mk k0 k1 k2 ks', A', cap'), by simpa [Ex.kind] using e0, by simpa [Ex.n] using e1, by simpa [Ex.s] using e2, by simpa [Ex.kids] using e3, l5, l2, by rw [Ex.fits]; exact ⟨hs, l4, l3⟩⟩
      obtain ⟨q, hq⟩ := choose_lt each
      refine ⟨(List.range len).map (fun i => (q i).1), by simp, ?_, fitss_of (fun e he => ?_), by omega, hl⟩
      · by_cases h0 : len = 0
        · subst h0; exact .nil
        · obtain ⟨b, off, spot⟩ := a
          have hspot : spot = none := by simpa [Addr.add] using World.cell?_spot (hq 0 (by omega)).1
          subst hspot
          have hb : b < w.heap.size := by
            have h1 := (hq 0 (by omega)).1
            rcases Nat.lt_or_ge b w.heap.size with h | h
            · exact h
            · simp [World.cell?, Addr.add, Array.getElem?_eq_none h] at h1
          refine KidsAt.of hb fun j hj => ?_
          have hj' : j < len := by simpa using hj
          obtain ⟨c0, c1, c2, c3, c4, c5, _⟩ := hq j hj'
          rw [add_plain] at c0 c1 c2 c3
          refine ⟨(q j).2.1, (q j).2.2, ?_, ?_, ?_, ?_, ?_, ?_⟩ <;> simp only [List.getElem_map, List.getElem_range]
          · exact c0
          · exact c1
          · exact c2
          · exact c3
          · exact c4
          · exact c5
      · obtain ⟨i, hi, rfl⟩ := List.mem_map.1 he
        exact (hq i (List.mem_range.1 hi)).2.2.2.2.2.2

set_option maxRecDepth 100000 in
theorem open_ex {H : Type} {enc : TypeId × Value → H} {w : World} {base b0 : Nat} {r : Reach} {spare : Nat → Bool} {held : Bool} {v : Value} {d : DataW H} {p : List MemPlace} (hv : Value.okWide Tryz.prog w r b0 24 v) (h : DataW.Trod enc Tryz.prog w base spare held 24 v d p) :
    ∃ (e : Ex) (A : Option Addr) (c : Nat), v = .agg #[.int .i64 e.kind, .int .i64 e.n, .string e.s, .slice A e.kids.length c] ∧ InEx w A c e := by
  obtain ⟨v0, v1, v2, v3, y0, y1, y2, y3, n, rfl, _, _, f0, f1, f2, f3⟩ := Joins.open_agg4 Tryz.underlying24 (by kernel_rfl) cellsEx hv h
  obtain ⟨k0, r0, _, _⟩ := DataW.trod_int Tryz.underlying3 f0
  obtain ⟨k1, r1, _, _⟩ := DataW.trod_int Tryz.underlying3 f1
  obtain ⟨k2, r2, _, hs⟩ := DataW.trod_string Tryz.underlying9 f2
  simp at r0 r1 r2
  subst r0 r1 r2
  obtain ⟨A', len', cap', rfl⟩ : ∃ A' len' cap', v3 = .slice A' len' cap' := by
    rcases DataW.trod_slice Tryz.underlying22 f3 with ⟨h0, _⟩ | ⟨a', l', c', _, _, _, _, h0, _⟩
    · simp at h0; exact ⟨_, _, _, h0⟩
    · simp at h0; exact ⟨_, _, _, h0⟩
  obtain ⟨ks', l1, l2, l3, l4, l5⟩ := open_kids n A' len' cap' _ f3
  subst l1
  exact ⟨.mk k0 k1 k2 ks', A', cap', rfl, by rw [Ex.fits]; exact ⟨hs, l4, l3⟩, l2, l5⟩
end Go.Proofs.YtaclndbilpaboaaGreatDoor
