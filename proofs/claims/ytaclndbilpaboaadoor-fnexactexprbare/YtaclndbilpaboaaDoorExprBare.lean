/-
  The contract of the program's ExprBare, for all that can be read.
-/
import Derived.Test.YtaclndbilpaboaaDoorMethExpr
import Derived.Test.YtaclndbilpaboaaDoorMethBare
import Derived.Test.YtaclndbilpaboaaDoorExprOk
namespace Go.Proofs.YtaclndbilpaboaaDoor
open Go.RowKit

/-- It without types; nothing of what is not ok. -/
def bareE (e : Ex) : Ex := match okP e with
  | some p => p.bare.ex
  | none => Ex.zero
set_option maxRecDepth 100000 in
set_option maxHeartbeats 2000000 in
theorem exprBare_any (e : Ex) (A : Option Addr) (c B : Nat) (w : World) (hA : KidsAt w B A e.kids) (hc : e.kids.length ≤ c) (hB : B ≤ w.heap.size) (hw : e.wt ≤ 2 ^ 40) :
    Calls Tryd.prog 19 #[.agg #[.int .i64 e.kind, .int .i64 e.n, .string e.s, .slice A e.kids.length c]] w (Gives (bareE e) w) := by
  have hkl : e.kids.length ≤ 2 ^ 40 := by
    obtain ⟨k, n, s, ks⟩ := e
    have := Ex.wts_length ks
    simp only [Ex.wt, Ex.kids] at hw ⊢
    omega
  obtain ⟨W0, hW0⟩ : ∃ W0, W0 = (w.alloc (.cells #[.int .i64 e.kind, .int .i64 e.n, .string e.s, .slice A e.kids.length c] 29)).alloc (.cells #[.int .i64 0, .int .i64 0, .string { data := #[] }, .slice none 0 0] 29) := ⟨_, rfl⟩
  have hb0 : Below w.heap.size w W0 := by rw [hW0]; exact ((Below.refl _ w).alloc (Nat.le_refl _) _).alloc (by simp) _
  have hs0 : w.heap.size + 1 < W0.heap.size := by rw [hW0]; simp
  have hB0 : Blk W0 (w.heap.size + 1) #[.int .i64 0, .int .i64 0, .string { data := #[] }, .slice none 0 0] := by
    have := World.alloc_heap_new (w.alloc (.cells #[.int .i64 e.kind, .int .i64 e.n, .string e.s, .slice A e.kids.length c] 29)) (.cells #[.int .i64 0, .int .i64 0, .string { data := #[] }, .slice none 0 0] 29)
    rw [World.size_alloc] at this
    rw [hW0]; exact this
  have HC := Lib.hid (partOf_any e A c B W0 (hA.keep (hb0.mono hB)) hc (Nat.le_trans hB hb0.size) hw)
  unfold PartOf at HC
  clear hA hw
  cases hok : okE e
  · have HF := Lib.hid (show bareE e = Ex.zero by unfold bareE; rw [show okP e = none from by cases h : okP e with | none => rfl | some p => rw [← okP_isSome, h] at hok; cases hok])
    rw [hok] at HC
    clear hok
    go_enter Tryd.func19, Tryd.ntmps19
    go_wp2_with fail
    rw [← hW0]
    refine HC.out.mono ?_
    rintro r w1 ⟨v, rfl, _, hb1⟩
    have hB1 : Blk w1 (w.heap.size + 1) #[.int .i64 0, .int .i64 0, .string { data := #[] }, .slice none 0 0] := (hb1.block _ hs0).trans hB0
    have x0 := hB1.cell 0
    have x1 := hB1.cell 1
    have x2 := hB1.cell 2
    have x3 := hB1.cell 3
    have q0 := hB1.frozen 0
    have q1 := hB1.frozen 1
    have q2 := hB1.frozen 2
    have q3 := hB1.frozen 3
    simp only [List.getElem?_toArray, List.getElem?_cons_zero, List.getElem?_cons_succ] at x0 x1 x2 x3
    have HBN := Lib.hid (blk_set4 (.int .i64 0) (.int .i64 0) (.string { data := #[] }) (.slice none 0 0) hB1)
    have hz0 := hb0.size
    have hz1 := hb1.size
    clear hB1 hB0 HC
    go_wp2_with fail
    obtain ⟨wn, hwn⟩ : ∃ wn, wn = (((w1.setCell ⟨w.heap.size + 1, 0, none⟩ (.int .i64 0)).setCell ⟨w.heap.size + 1, 1, none⟩ (.int .i64 0)).setCell ⟨w.heap.size + 1, 2, none⟩ (.string { data := #[] })).setCell ⟨w.heap.size + 1, 3, none⟩ (.slice none 0 0) := ⟨_, rfl⟩
    have hBn := HBN.out
    have hsame : ∀ k, k ≠ w.heap.size + 1 → wn.heap[k]? = w1.heap[k]? := fun k hk => by rw [hwn]; exact heap_set4 _ _ _ _ _ _ _ hk
    have hzn : wn.heap.size = w1.heap.size := by rw [hwn]; exact size_set4 _ _ _ _ _ _
    rw [← hwn] at hBn ⊢
    have r0 := hBn.cell 0
    have r1 := hBn.cell 1
    have r2 := hBn.cell 2
    have r3 := hBn.cell 3
    simp only [List.getElem?_toArray, List.getElem?_cons_zero, List.getElem?_cons_succ] at r0 r1 r2 r3
    refine bodyPost_ret (v := .agg #[.int .i64 0, .int .i64 0, .string { data := #[] }, .slice none 0 0]) (by simp [results, Tryd.results19, go_sem, r0, r1, r2, r3]) rfl ?_
    rw [HF.out]
    exact ⟨none, 0, rfl, Nat.le_refl _, own_nil _ _ _ _ _ _ _ (by omega), hb0.trans ((hb1.mono hz0).trans ⟨by rw [hwn]; rfl, by rw [hwn]; rfl, by rw [hwn]; rfl, by omega, fun k hk => hsame k (by omega)⟩)⟩
  · obtain ⟨p, hp⟩ : ∃ p, okP e = some p := by
      cases h : okP e with
      | none => rw [← okP_isSome, h] at hok; cases hok
      | some p => exact ⟨p, rfl⟩
    have HF := Lib.hid (show bareE e = p.bare.ex by unfold bareE; rw [hp])
    have HP := Lib.hid hp
    rw [hok] at HC
    clear hok hp
    go_enter Tryd.func19, Tryd.ntmps19
    go_wp2_with fail
    rw [← hW0]
    refine HC.out.mono ?_
    rintro r w1 ⟨v, rfl, hv, hb1⟩
    obtain rfl := hv p HP.out
    obtain ⟨m1, n1, k1⟩ := meth_bare p
    obtain ⟨m2, n2, k2⟩ := meth_expr p.bare
    have HBA := Lib.hid (bare_any p)
    have HEX := Lib.hid (expr_any p.bare)
    rw [partV_at p]
    rw [partV_at p.bare] at HBA
    generalize ptT p.bare = t2 at *
    generalize ptU p.bare = u2 at *
    generalize fExpr p.bare = f2 at *
    generalize p.bare.ex = x at *
    generalize ptT p = t1 at *
    generalize ptU p = u1 at *
    generalize fBare p = f1 at *
    clear HC hv HP hW0
    go_wp2_with fail
    refine (HBA.out _).mono ?_
    rintro r w2 ⟨rfl, hb2'⟩
    have hb2 := hb1.trans (hb2'.mono hb1.size)
    go_wp2_with fail
    refine (HEX.out _).mono ?_
    rintro r w3 ⟨A3, c3, rfl, hc3, hO3, hb3'⟩
    have hb3 := hb2.trans (hb3'.mono hb2.size)
    have hB1 : Blk w3 (w.heap.size + 1) #[.int .i64 0, .int .i64 0, .string { data := #[] }, .slice none 0 0] := (hb3.block _ hs0).trans hB0
    have x0 := hB1.cell 0
    have x1 := hB1.cell 1
    have x2 := hB1.cell 2
    have x3 := hB1.cell 3
    have q0 := hB1.frozen 0
    have q1 := hB1.frozen 1
    have q2 := hB1.frozen 2
    have q3 := hB1.frozen 3
    simp only [List.getElem?_toArray, List.getElem?_cons_zero, List.getElem?_cons_succ] at x0 x1 x2 x3
    have HBN := Lib.hid (blk_set4 (.int .i64 x.kind) (.int .i64 x.n) (.string x.s) (.slice A3 x.kids.length c3) hB1)
    have hz0 := hb0.size
    have hz2 := hb2.size
    have hz3 := hb3'.size
    have HO := Lib.hid hO3
    clear hB1 hB0 hO3
    go_wp2_with fail
    obtain ⟨wn, hwn⟩ : ∃ wn, wn = (((w3.setCell ⟨w.heap.size + 1, 0, none⟩ (.int .i64 x.kind)).setCell ⟨w.heap.size + 1, 1, none⟩ (.int .i64 x.n)).setCell ⟨w.heap.size + 1, 2, none⟩ (.string x.s)).setCell ⟨w.heap.size + 1, 3, none⟩ (.slice A3 x.kids.length c3) := ⟨_, rfl⟩
    have hBn := HBN.out
    have hsame : ∀ k, k ≠ w.heap.size + 1 → wn.heap[k]? = w3.heap[k]? := fun k hk => by rw [hwn]; exact heap_set4 _ _ _ _ _ _ _ hk
    have hzn : wn.heap.size = w3.heap.size := by rw [hwn]; exact size_set4 _ _ _ _ _ _
    rw [← hwn] at hBn ⊢
    have r0 := hBn.cell 0
    have r1 := hBn.cell 1
    have r2 := hBn.cell 2
    have r3 := hBn.cell 3
    simp only [List.getElem?_toArray, List.getElem?_cons_zero, List.getElem?_cons_succ] at r0 r1 r2 r3
    refine bodyPost_ret (v := .agg #[.int .i64 x.kind, .int .i64 x.n, .string x.s, .slice A3 x.kids.length c3]) (by simp [results, Tryd.results19, go_sem, r0, r1, r2, r3]) rfl ?_
    rw [HF.out]
    exact ⟨A3, c3, rfl, hc3, own_wide (own_keep _ _ _ _ (fun k h1 h2 => hsame k (by omega)) HO.out) (by omega) (by omega), hb0.trans ((hb3.mono hz0).trans ⟨by rw [hwn]; rfl, by rw [hwn]; rfl, by rw [hwn]; rfl, by omega, fun k hk => hsame k (by omega)⟩)⟩
end Go.Proofs.YtaclndbilpaboaaDoor
