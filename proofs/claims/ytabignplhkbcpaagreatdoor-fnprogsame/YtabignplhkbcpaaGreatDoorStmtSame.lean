/-
  The contracts of StmtSame, the program's and the model's.
-/
import Derived.Test.YtabignplhkbcpaaGreatDoorGA
import Derived.Test.YtabignplhkbcpaaGreatDoorExprSame
namespace Go.Proofs.YtabignplhkbcpaaGreatDoor
open Go.RowKit

set_option maxRecDepth 100000 in
set_option maxHeartbeats 4000000 in
theorem stmtSame_any (a b : St) (A1 A2 B1 B2 : Option Addr) (c1 c2 d1 d2 B : Nat) (w : World) (hA1 : KidsU w B A1 a.e.kids) (hA2 : KidsU w B A2 a.t.kids) (hB1 : KidsU w B B1 b.e.kids) (hB2 : KidsU w B B2 b.t.kids)
    (hc1 : a.e.kids.length ≤ c1) (hc2 : a.t.kids.length ≤ c2) (hd1 : b.e.kids.length ≤ d1) (hd2 : b.t.kids.length ≤ d2) (hB : B ≤ w.heap.size) (hw : a.wt ≤ 2 ^ 29) :
    Calls Tryz.prog 51 #[.agg #[.int .i64 a.kind, .string a.name, .string a.typ, .int .i64 a.e.kind, .int .i64 a.e.n, .string a.e.s, .slice A1 a.e.kids.length c1, .int .i64 a.t.kind, .int .i64 a.t.n, .string a.t.s, .slice A2 a.t.kids.length c2], .agg #[.int .i64 b.kind, .string b.name, .string b.typ, .int .i64 b.e.kind, .int .i64 b.e.n, .string b.e.s, .slice B1 b.e.kids.length d1, .int .i64 b.t.kind, .int .i64 b.t.n, .string b.t.s, .slice B2 b.t.kids.length d2]] w fun r w' => r = .returned (.bool (sameS a b)) ∧ Below w.heap.size w w' := by
  obtain ⟨W0, hW0⟩ : ∃ W0, W0 = (w.alloc (.cells #[.int .i64 a.kind, .string a.name, .string a.typ, .int .i64 a.e.kind, .int .i64 a.e.n, .string a.e.s, .slice A1 a.e.kids.length c1, .int .i64 a.t.kind, .int .i64 a.t.n, .string a.t.s, .slice A2 a.t.kids.length c2] 36)).alloc (.cells #[.int .i64 b.kind, .string b.name, .string b.typ, .int .i64 b.e.kind, .int .i64 b.e.n, .string b.e.s, .slice B1 b.e.kids.length d1, .int .i64 b.t.kind, .int .i64 b.t.n, .string b.t.s, .slice B2 b.t.kids.length d2] 36) := ⟨_, rfl⟩
  have hb0 : Below w.heap.size w W0 := by rw [hW0]; exact ((Below.refl _ w).alloc (Nat.le_refl _) _).alloc (by simp) _
  have hs0 : w.heap.size + 1 < W0.heap.size := by rw [hW0]; simp
  have a0 : W0.cell? ⟨w.heap.size, 7, none⟩ = some (.int .i64 a.t.kind) := by rw [hW0]; exact cell_new2a w _ _ _ _ 7 _ rfl
  have b0 : W0.cell? ⟨w.heap.size + 1, 7, none⟩ = some (.int .i64 b.t.kind) := by rw [hW0]; exact cell_new2b w _ _ _ _ 7 _ rfl
  have a1 : W0.cell? ⟨w.heap.size, 8, none⟩ = some (.int .i64 a.t.n) := by rw [hW0]; exact cell_new2a w _ _ _ _ 8 _ rfl
  have b1 : W0.cell? ⟨w.heap.size + 1, 8, none⟩ = some (.int .i64 b.t.n) := by rw [hW0]; exact cell_new2b w _ _ _ _ 8 _ rfl
  have a2 : W0.cell? ⟨w.heap.size, 9, none⟩ = some (.string a.t.s) := by rw [hW0]; exact cell_new2a w _ _ _ _ 9 _ rfl
  have b2 : W0.cell? ⟨w.heap.size + 1, 9, none⟩ = some (.string b.t.s) := by rw [hW0]; exact cell_new2b w _ _ _ _ 9 _ rfl
  have a3 : W0.cell? ⟨w.heap.size, 10, none⟩ = some (.slice A2 a.t.kids.length c2) := by rw [hW0]; exact cell_new2a w _ _ _ _ 10 _ rfl
  have b3 : W0.cell? ⟨w.heap.size + 1, 10, none⟩ = some (.slice B2 b.t.kids.length d2) := by rw [hW0]; exact cell_new2b w _ _ _ _ 10 _ rfl
  have HE := Lib.hid (exprSame_any a.e b.e A1 B1 c1 d1 B W0 (hA1.keep (hb0.mono hB)) (hB1.keep (hb0.mono hB)) hc1 hd1 (Nat.le_trans hB hb0.size) (by have := a.e.nodes_le; unfold St.wt at hw; omega))
  have HT := Lib.hid (fun (V : World) (hV : Below W0.heap.size W0 V) => exprSame_any a.t b.t A2 B2 c2 d2 B V (hA2.keep ((hb0.trans (hV.mono hb0.size)).mono hB)) (hB2.keep ((hb0.trans (hV.mono hb0.size)).mono hB)) hc2 hd2 (Nat.le_trans hB (Nat.le_trans hb0.size hV.size)) (by have := a.t.nodes_le; unfold St.wt at hw; omega))
  clear hA1 hA2 hB1 hB2
  by_cases h1 : a.kind = b.kind
  case neg =>
    have q1 : (a.kind == b.kind) = false := by rw [beq_eq_false_iff_ne]; exact h1
    rw [hW0] at hb0
    have Hh1 := Lib.hid h1
    clear h1
    go_enter Tryz.func51, Tryz.ntmps51
    go_wp2_with fail
    go_ret
    exact ⟨ret_bool (by simp [sameS, Hh1.out]), hb0⟩

  have q1 : (a.kind == b.kind) = true := by rw [beq_iff_eq]; exact h1
  have H1 := Lib.hid h1
  clear h1
  by_cases h2 : a.name = b.name
  case neg =>
    have q2 := lst_ne h2
    rw [hW0] at hb0
    have Hh2 := Lib.hid h2
    clear h2
    go_enter Tryz.func51, Tryz.ntmps51
    go_wp2_with fail
    go_ret
    exact ⟨ret_bool (by simp [sameS, Hh2.out]), hb0⟩

  have q2 := lst_eq h2
  have H2 := Lib.hid h2
  clear h2
  by_cases h3 : a.typ = b.typ
  case neg =>
    have q3 := lst_ne h3
    rw [hW0] at hb0
    have Hh3 := Lib.hid h3
    clear h3
    go_enter Tryz.func51, Tryz.ntmps51
    go_wp2_with fail
    go_ret
    exact ⟨ret_bool (by simp [sameS, Hh3.out]), hb0⟩

  have q3 := lst_eq h3
  have H3 := Lib.hid h3
  clear h3
  have HF := Lib.hid (show sameS a b = (sameE a.e b.e && sameE a.t b.t) by simp [sameS, H1.out, H2.out, H3.out])
  generalize sameE a.e b.e = X at *
  generalize sameE a.t b.t = Y at *
  go_enter Tryz.func51, Tryz.ntmps51
  go_wp2_with fail
  rw [← hW0]
  clear hW0
  refine HE.out.mono ?_
  rintro r w1 ⟨rfl, hb1⟩
  have x0 := (hb1.cell (p := ⟨w.heap.size, 7, none⟩) (by show w.heap.size < _; omega)).trans a0
  have y0 := (hb1.cell (p := ⟨w.heap.size + 1, 7, none⟩) hs0).trans b0
  have x1 := (hb1.cell (p := ⟨w.heap.size, 8, none⟩) (by show w.heap.size < _; omega)).trans a1
  have y1 := (hb1.cell (p := ⟨w.heap.size + 1, 8, none⟩) hs0).trans b1
  have x2 := (hb1.cell (p := ⟨w.heap.size, 9, none⟩) (by show w.heap.size < _; omega)).trans a2
  have y2 := (hb1.cell (p := ⟨w.heap.size + 1, 9, none⟩) hs0).trans b2
  have x3 := (hb1.cell (p := ⟨w.heap.size, 10, none⟩) (by show w.heap.size < _; omega)).trans a3
  have y3 := (hb1.cell (p := ⟨w.heap.size + 1, 10, none⟩) hs0).trans b3
  clear a0 a1 a2 a3 b0 b1 b2 b3
  cases X with
  | false =>
    go_wp2_with fail
    go_ret
    exact ⟨ret_bool (by rw [HF.out]; rfl), hb0.trans (hb1.mono hb0.size)⟩
  | true =>
    go_wp2_with fail
    refine (HT.out w1 hb1).mono ?_
    rintro r w2 ⟨rfl, hb2⟩
    have hb12 := hb1.trans (hb2.mono hb1.size)
    go_wp2_with fail
    go_ret
    exact ⟨ret_bool (by rw [HF.out]; rfl), hb0.trans (hb12.mono hb0.size)⟩
end Go.Proofs.YtabignplhkbcpaaGreatDoor
