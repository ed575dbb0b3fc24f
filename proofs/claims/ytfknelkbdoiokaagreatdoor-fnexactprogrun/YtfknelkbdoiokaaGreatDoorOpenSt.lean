/-
  How a line comes in.
-/
import Derived.Test.YtfknelkbdoiokaaGreatDoorGE
import Derived.Test.YtfknelkbdoiokaaGreatDoorGN
namespace Go.Proofs.YtfknelkbdoiokaaGreatDoor
open Go.RowKit Go.Deep Go.WideShapes

theorem cellsSt : Tryz.prog.cellsOf 77 = 11 := by kernel_rfl
set_option maxRecDepth 100000 in
theorem open_ex4 {H : Type} {enc : TypeId × Value → H} {w : World} {base n : Nat} {spare : Nat → Bool} {held : Bool} {v0 v1 v2 v3 : Value} {x : DataW H × List MemPlace} (h : DataW.trod enc Tryz.prog w base spare held n 75 [v0, v1, v2, v3] = some x) :
    ∃ (e : Ex) (A : Option Addr) (c : Nat), v0 = .int .i64 e.kind ∧ v1 = .int .i64 e.n ∧ v2 = .string e.s ∧ v3 = .slice A e.kids.length c ∧ InEx w A c e := by
  obtain ⟨xs, n', hn', _, _, hxl, hf⟩ := DataW.trod_struct Tryz.underlying75 h
  have f0 := hf 0 _ rfl
  have f1 := hf 1 _ rfl
  have f2 := hf 2 _ rfl
  have f3 := hf 3 _ rfl
  simp only [List.size_toArray, List.length_cons, List.length_nil] at hxl
  rw [List.getElem?_eq_getElem (by omega)] at f0 f1 f2 f3
  simp [cellsExI, cellsExS, cellsExK] at f0 f1 f2 f3
  obtain ⟨k0, r0, _, _⟩ := DataW.trod_int Tryz.underlying3 f0
  obtain ⟨k1, r1, _, _⟩ := DataW.trod_int Tryz.underlying3 f1
  obtain ⟨k2, r2, _, hs⟩ := DataW.trod_string Tryz.underlying9 f2
  simp at r0 r1 r2
  subst r0 r1 r2
  obtain ⟨A', len', cap', rfl⟩ : ∃ A' len' cap', v3 = .slice A' len' cap' := by
    rcases DataW.trod_slice Tryz.underlying73 f3 with ⟨h0, _⟩ | ⟨a', l', c', _, _, _, _, h0, _⟩
    · simp at h0; exact ⟨_, _, _, h0⟩
    · simp at h0; exact ⟨_, _, _, h0⟩
  obtain ⟨ks', l1, l2, l3, l4, l5⟩ := open_kids n' A' len' cap' _ f3
  subst l1
  exact ⟨.mk k0 k1 k2 ks', A', cap', rfl, rfl, rfl, rfl, by rw [Ex.fits]; exact ⟨hs, l4, l3⟩, l2, l5⟩
/-- What came in is this one. -/
def InSt (w : World) (A1 : Option Addr) (c1 : Nat) (A2 : Option Addr) (c2 : Nat) (s : St) : Prop := s.fits ∧ KidsAt w w.heap.size A1 s.e.kids ∧ KidsAt w w.heap.size A2 s.t.kids ∧ s.e.kids.length ≤ c1 ∧ s.t.kids.length ≤ c2
theorem array11 {cs : Array Value} (h : cs.size = 11) : ∃ a b c d e f g i j k l : Value, cs = #[a, b, c, d, e, f, g, i, j, k, l] := by
  obtain ⟨cl⟩ := cs
  match cl, h with
  | [a, b, c, d, e, f, g, i, j, k, l], _ => exact ⟨a, b, c, d, e, f, g, i, j, k, l, rfl⟩
set_option maxRecDepth 100000 in
theorem open_stmt {H : Type} {enc : TypeId × Value → H} {w : World} {base b0 : Nat} {r : Reach} {spare : Nat → Bool} {held : Bool} {v : Value} {d : DataW H} {p : List MemPlace} (hv : Value.okWide Tryz.prog w r b0 77 v) (h : DataW.Trod enc Tryz.prog w base spare held 77 v d p) :
    ∃ (s : St) (A1 : Option Addr) (c1 : Nat) (A2 : Option Addr) (c2 : Nat), v = .agg #[.int .i64 s.kind, .string s.name, .string s.typ, .int .i64 s.e.kind, .int .i64 s.e.n, .string s.e.s, .slice A1 s.e.kids.length c1, .int .i64 s.t.kind, .int .i64 s.t.n, .string s.t.s, .slice A2 s.t.kids.length c2] ∧ InSt w A1 c1 A2 c2 s := by
  obtain ⟨cs, rfl, hsz⟩ := okWide_struct Tryz.underlying77 hv
  obtain ⟨z0, z1, z2, z3, z4, z5, z6, z7, z8, z9, z10, rfl⟩ := array11 (hsz.trans cellsSt)
  obtain ⟨fuel, hf0⟩ := h
  obtain ⟨xs, n', hn', _, _, hxl, hf⟩ := DataW.trod_struct Tryz.underlying77 hf0
  have f0 := hf 0 _ rfl
  have f1 := hf 1 _ rfl
  have f2 := hf 2 _ rfl
  have f3 := hf 3 _ rfl
  have f4 := hf 4 _ rfl
  simp only [List.size_toArray, List.length_cons, List.length_nil] at hxl
  rw [List.getElem?_eq_getElem (by omega)] at f0 f1 f2 f3 f4
  simp [Value.cells, cellsExI, cellsExS, cellsEx] at f0 f1 f2 f3 f4
  obtain ⟨k0, r0, _, _⟩ := DataW.trod_int Tryz.underlying3 f0
  obtain ⟨k1, r1, _, hs1⟩ := DataW.trod_string Tryz.underlying9 f1
  obtain ⟨k2, r2, _, hs2⟩ := DataW.trod_string Tryz.underlying9 f2
  simp at r0 r1 r2
  subst r0 r1 r2
  obtain ⟨e, A1, c1, e0, e1, e2, e3, hE⟩ := open_ex4 f3
  obtain ⟨t, A2, c2, t0, t1, t2, t3, hT⟩ := open_ex4 f4
  subst e0 e1 e2 e3 t0 t1 t2 t3
  exact ⟨⟨k0, k1, k2, e, t⟩, A1, c1, A2, c2, rfl, ⟨hs1, hs2, hE.1, hT.1⟩, hE.2.1, hT.2.1, hE.2.2, hT.2.2⟩
end Go.Proofs.YtfknelkbdoiokaaGreatDoor
