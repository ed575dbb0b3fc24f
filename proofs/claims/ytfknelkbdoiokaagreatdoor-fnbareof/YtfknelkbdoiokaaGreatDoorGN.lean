/-
  StmtLaws, BareLaws: these texts one behind the other, as a claim holds at most 60 files.
-/
import Derived.Test.YtfknelkbdoiokaaGreatDoorGA
import Derived.Test.YtfknelkbdoiokaaGreatDoorGD
import Derived.Test.YtfknelkbdoiokaaGreatDoorGE
namespace Go.Proofs.YtfknelkbdoiokaaGreatDoor
open Go.RowKit

/-- No text and no list is longer than can be. -/
def St.fits (s : St) : Prop := s.name.size ≤ maxLen ∧ s.typ.size ≤ maxLen ∧ s.e.fits ∧ s.t.fits
set_option maxRecDepth 100000 in
set_option maxHeartbeats 4000000 in
theorem szStmt_any (s : St) (A1 A2 : Option Addr) (c1 c2 B : Nat) (left : Int) (w : World) (hf : s.fits) (hA1 : KidsAt w B A1 s.e.kids) (hA2 : KidsAt w B A2 s.t.kids) (hc1 : s.e.kids.length ≤ c1) (hc2 : s.t.kids.length ≤ c2) (hB : B ≤ w.heap.size) (h0 : 0 ≤ left) (h1 : left ≤ 2 ^ 40) :
    Calls Tryz.prog 50 #[.agg #[.int .i64 s.kind, .string s.name, .string s.typ, .int .i64 s.e.kind, .int .i64 s.e.n, .string s.e.s, .slice A1 s.e.kids.length c1, .int .i64 s.t.kind, .int .i64 s.t.n, .string s.t.s, .slice A2 s.t.kids.length c2], .int .i64 left] w (LeftE s.wt left w) := by
  obtain ⟨hfn, hft, hfe, hfx⟩ := hf
  unfold maxLen at hfn hft
  obtain ⟨W0, hW0⟩ : ∃ W0, W0 = w.alloc (.cells #[.int .i64 s.kind, .string s.name, .string s.typ, .int .i64 s.e.kind, .int .i64 s.e.n, .string s.e.s, .slice A1 s.e.kids.length c1, .int .i64 s.t.kind, .int .i64 s.t.n, .string s.t.s, .slice A2 s.t.kids.length c2] 77) := ⟨_, rfl⟩
  have hb0 : Below w.heap.size w W0 := by rw [hW0]; exact (Below.refl _ w).alloc (Nat.le_refl _) _
  have hs0 : w.heap.size < W0.heap.size := by rw [hW0]; simp
  have a0 : W0.cell? ⟨w.heap.size, 7, none⟩ = some (.int .i64 s.t.kind) := by rw [hW0]; exact cell_made4 w _ _ 7 _ rfl
  have a1 : W0.cell? ⟨w.heap.size, 8, none⟩ = some (.int .i64 s.t.n) := by rw [hW0]; exact cell_made4 w _ _ 8 _ rfl
  have a2 : W0.cell? ⟨w.heap.size, 9, none⟩ = some (.string s.t.s) := by rw [hW0]; exact cell_made4 w _ _ 9 _ rfl
  have a3 : W0.cell? ⟨w.heap.size, 10, none⟩ = some (.slice A2 s.t.kids.length c2) := by rw [hW0]; exact cell_made4 w _ _ 10 _ rfl
  have HE := Lib.hid (fun (z : Int) (hz0 : 0 ≤ z) (hz1 : z ≤ 2 ^ 40) => szExpr_any s.e A1 c1 B z W0 hfe (hA1.keep (hb0.mono hB)) hc1 (Nat.le_trans hB hb0.size) hz0 hz1)
  have HT := Lib.hid (fun (z : Int) (V : World) (hV : Below W0.heap.size W0 V) (hz0 : 0 ≤ z) (hz1 : z ≤ 2 ^ 40) => szExpr_any s.t A2 c2 B z V hfx (hA2.keep ((hb0.trans (hV.mono hb0.size)).mono hB)) hc2 (Nat.le_trans hB (Nat.le_trans hb0.size hV.size)) hz0 hz1)
  have HW := Lib.hid (show s.wt = s.name.size + s.typ.size + s.e.wt + s.t.wt from rfl)
  clear hA1 hA2 hfe hfx
  by_cases hn1 : left - (s.name.size : Int) < 0
  · rw [hW0] at hb0
    go_enter Tryz.func50, Tryz.ntmps50
    go_wp2_with fail
    go_ret
    exact ⟨_, rfl, fun h => absurd h (by decide), by omega, hb0⟩
  by_cases hn2 : left - (s.name.size : Int) - (s.typ.size : Int) < 0
  · rw [hW0] at hb0
    go_enter Tryz.func50, Tryz.ntmps50
    go_wp2_with fail
    go_ret
    exact ⟨_, rfl, fun h => absurd h (by decide), by omega, hb0⟩
  have HE2 := Lib.hid (HE.out (left - (s.name.size : Int) - (s.typ.size : Int)) (by omega) (by omega))
  go_enter Tryz.func50, Tryz.ntmps50
  go_wp2_with fail
  rw [← hW0]
  clear hW0
  refine HE2.out.mono ?_
  rintro r w1 ⟨z1, rfl, hz1, hzl1, hb1⟩
  have x0 := (hb1.cell (p := ⟨w.heap.size, 7, none⟩) hs0).trans a0
  have x1 := (hb1.cell (p := ⟨w.heap.size, 8, none⟩) hs0).trans a1
  have x2 := (hb1.cell (p := ⟨w.heap.size, 9, none⟩) hs0).trans a2
  have x3 := (hb1.cell (p := ⟨w.heap.size, 10, none⟩) hs0).trans a3
  have hb01 := hb0.trans (hb1.mono hb0.size)
  by_cases hn3 : z1 < 0
  · go_wp2_with fail
    go_ret
    exact ⟨_, rfl, fun h => absurd h (by decide), by omega, hb01⟩
  have HZ1 := Lib.hid (hz1 (by omega))
  have HT2 := Lib.hid (HT.out z1 w1 hb1 (by omega) (by omega))
  clear hz1 HE HE2
  go_wp2_with fail
  refine HT2.out.mono ?_
  rintro r w2 ⟨z2, rfl, hz2, hzl2, hb2⟩
  have hb02 := hb01.trans (hb2.mono hb01.size)
  by_cases hn4 : z2 < 0
  · go_wp2_with fail
    go_ret
    exact ⟨_, rfl, fun h => absurd h (by decide), by omega, hb02⟩
  have HZ2 := Lib.hid (hz2 (by omega))
  clear hz2
  go_wp2_with fail
  go_ret
  exact ⟨z2, rfl, fun _ => by have := HZ1.out; have := HZ2.out; have := HW.out; omega, by omega, hb02⟩
set_option maxRecDepth 100000 in
set_option maxHeartbeats 4000000 in
theorem eqStmt_same (s : St) (A1 A2 B1 B2 : Option Addr) (c1 c2 d1 d2 B : Nat) (w : World) (hA1 : KidsAt w B A1 s.e.kids) (hA2 : KidsAt w B A2 s.t.kids) (hB1 : KidsAt w B B1 s.e.kids) (hB2 : KidsAt w B B2 s.t.kids)
    (hc1 : s.e.kids.length ≤ c1) (hc2 : s.t.kids.length ≤ c2) (hd1 : s.e.kids.length ≤ d1) (hd2 : s.t.kids.length ≤ d2) (hB : B ≤ w.heap.size) (hw : s.wt ≤ 2 ^ 29) :
    Calls Tryz.prog 36 #[.agg #[.int .i64 s.kind, .string s.name, .string s.typ, .int .i64 s.e.kind, .int .i64 s.e.n, .string s.e.s, .slice A1 s.e.kids.length c1, .int .i64 s.t.kind, .int .i64 s.t.n, .string s.t.s, .slice A2 s.t.kids.length c2], .agg #[.int .i64 s.kind, .string s.name, .string s.typ, .int .i64 s.e.kind, .int .i64 s.e.n, .string s.e.s, .slice B1 s.e.kids.length d1, .int .i64 s.t.kind, .int .i64 s.t.n, .string s.t.s, .slice B2 s.t.kids.length d2]] w fun r w' => r = .returned (.bool true) ∧ Below w.heap.size w w' := by
  obtain ⟨W0, hW0⟩ : ∃ W0, W0 = (w.alloc (.cells #[.int .i64 s.kind, .string s.name, .string s.typ, .int .i64 s.e.kind, .int .i64 s.e.n, .string s.e.s, .slice A1 s.e.kids.length c1, .int .i64 s.t.kind, .int .i64 s.t.n, .string s.t.s, .slice A2 s.t.kids.length c2] 35)).alloc (.cells #[.int .i64 s.kind, .string s.name, .string s.typ, .int .i64 s.e.kind, .int .i64 s.e.n, .string s.e.s, .slice B1 s.e.kids.length d1, .int .i64 s.t.kind, .int .i64 s.t.n, .string s.t.s, .slice B2 s.t.kids.length d2] 35) := ⟨_, rfl⟩
  have hb0 : Below w.heap.size w W0 := by rw [hW0]; exact ((Below.refl _ w).alloc (Nat.le_refl _) _).alloc (by simp) _
  have hs0 : w.heap.size + 1 < W0.heap.size := by rw [hW0]; simp
  have a0 : W0.cell? ⟨w.heap.size, 7, none⟩ = some (.int .i64 s.t.kind) := by rw [hW0]; exact cell_new2a w _ _ _ _ 7 _ rfl
  have b0 : W0.cell? ⟨w.heap.size + 1, 7, none⟩ = some (.int .i64 s.t.kind) := by rw [hW0]; exact cell_new2b w _ _ _ _ 7 _ rfl
  have a1 : W0.cell? ⟨w.heap.size, 8, none⟩ = some (.int .i64 s.t.n) := by rw [hW0]; exact cell_new2a w _ _ _ _ 8 _ rfl
  have b1 : W0.cell? ⟨w.heap.size + 1, 8, none⟩ = some (.int .i64 s.t.n) := by rw [hW0]; exact cell_new2b w _ _ _ _ 8 _ rfl
  have a2 : W0.cell? ⟨w.heap.size, 9, none⟩ = some (.string s.t.s) := by rw [hW0]; exact cell_new2a w _ _ _ _ 9 _ rfl
  have b2 : W0.cell? ⟨w.heap.size + 1, 9, none⟩ = some (.string s.t.s) := by rw [hW0]; exact cell_new2b w _ _ _ _ 9 _ rfl
  have a3 : W0.cell? ⟨w.heap.size, 10, none⟩ = some (.slice A2 s.t.kids.length c2) := by rw [hW0]; exact cell_new2a w _ _ _ _ 10 _ rfl
  have b3 : W0.cell? ⟨w.heap.size + 1, 10, none⟩ = some (.slice B2 s.t.kids.length d2) := by rw [hW0]; exact cell_new2b w _ _ _ _ 10 _ rfl
  have HE := Lib.hid (eqExpr_same s.e A1 B1 c1 d1 B W0 (hA1.keep (hb0.mono hB)) (hB1.keep (hb0.mono hB)) hc1 hd1 (Nat.le_trans hB hb0.size) (by unfold St.wt at hw; omega))
  have HT := Lib.hid (fun (V : World) (hV : Below W0.heap.size W0 V) => eqExpr_same s.t A2 B2 c2 d2 B V (hA2.keep ((hb0.trans (hV.mono hb0.size)).mono hB)) (hB2.keep ((hb0.trans (hV.mono hb0.size)).mono hB)) hc2 hd2 (Nat.le_trans hB (Nat.le_trans hb0.size hV.size)) (by unfold St.wt at hw; omega))
  clear hA1 hA2 hB1 hB2
  have q1 : (s.kind != s.kind) = false := by simp
  have q2 : (!s.name.toList == s.name.toList) = false := by simp
  have q3 : (!s.typ.toList == s.typ.toList) = false := by simp
  go_enter Tryz.func36, Tryz.ntmps36
  go_wp2_with fail
  rw [← hW0]
  clear hW0
  refine HE.out.mono ?_
  rintro r w1 ⟨rfl, hb1⟩
  have x0 := (hb1.cell (p := ⟨w.heap.size, 7, none⟩) (by show w.heap.size < _; omega)).trans a0
  have y0 := (hb1.cell (p := ⟨w.heap.size + 1, 7, none⟩) hs0).trans b0
  have x1 := (hb1.cell (p := ⟨w.heap.size, 8, none⟩) (by show w.heap.size < _; omega)).trans a1
  have y1 := (hb1.cell (p := ⟨w.heap.size + 1, 8, none⟩) hs0).trans b1
  have x2 := (hb1.cell (p := ⟨w.heap.size, 9, none⟩) (by show w.heap.size < _; omega)).trans a2
  have y2 := (hb1.cell (p := ⟨w.heap.size + 1, 9, none⟩) hs0).trans b2
  have x3 := (hb1.cell (p := ⟨w.heap.size, 10, none⟩) (by show w.heap.size < _; omega)).trans a3
  have y3 := (hb1.cell (p := ⟨w.heap.size + 1, 10, none⟩) hs0).trans b3
  clear a0 a1 a2 a3 b0 b1 b2 b3
  go_wp2_with fail
  refine (HT.out w1 hb1).mono ?_
  rintro r w2 ⟨rfl, hb2⟩
  have hb12 := hb1.trans (hb2.mono hb1.size)
  go_wp2_with fail
  go_ret
  exact ⟨rfl, hb0.trans (hb12.mono hb0.size)⟩
/-- A copy of a line is handed back, in memory of its own. -/
def CopiesS (s : St) (w : World) (r : Ending) (w' : World) : Prop :=
  ∃ X1 k1 X2 k2 mid, r = .returned (.agg #[.int .i64 s.kind, .string s.name, .string s.typ, .int .i64 s.e.kind, .int .i64 s.e.n, .string s.e.s, .slice X1 s.e.kids.length k1, .int .i64 s.t.kind, .int .i64 s.t.n, .string s.t.s, .slice X2 s.t.kids.length k2]) ∧ s.e.kids.length ≤ k1 ∧ s.t.kids.length ≤ k2 ∧ OwnE w' s.e w.heap.size mid X1 ∧ OwnE w' s.t mid w'.heap.size X2 ∧ Below w.heap.size w w'
def BlkS (w : World) (g : Nat) (cur : Array Value) : Prop := w.heap[g]? = some (.cells cur 35 (0, 0))
theorem BlkS.lt {w : World} {g : Nat} {cur : Array Value} (h : BlkS w g cur) : g < w.heap.size := (Array.getElem?_eq_some_iff.1 h).1
theorem BlkS.cell {w : World} {g : Nat} {cur : Array Value} (h : BlkS w g cur) (i : Nat) : w.cell? ⟨g, i, none⟩ = cur[i]? := by simp [World.cell?, show w.heap[g]? = _ from h]
theorem BlkS.frozen {w : World} {g : Nat} {cur : Array Value} (h : BlkS w g cur) (i : Nat) : w.frozen? ⟨g, i, none⟩ = false := by simp [World.frozen?, show w.heap[g]? = _ from h]
theorem BlkS.set {w : World} {g : Nat} {cur : Array Value} (h : BlkS w g cur) (i : Nat) (v : Value) : BlkS (w.setCell ⟨g, i, none⟩ v) g (cur.setIfInBounds i v) := heap_setCell_same w g i cur _ v h
def setAll (w : World) (g : Nat) : Nat → List Value → World
  | _, [] => w
  | k, v :: vs => setAll (w.setCell ⟨g, k, none⟩ v) g (k + 1) vs
theorem setAll_other (g : Nat) : ∀ (vs : List Value) (k : Nat) (w : World) {b : Nat}, b ≠ g → (setAll w g k vs).heap[b]? = w.heap[b]? := by
  intro vs
  induction vs with
  | nil => intro k w b _; rfl
  | cons v vs ih => intro k w b hb; rw [setAll, ih (k + 1) _ hb]; exact Below.heap_setCell _ _ _ b hb
theorem setAll_size (g : Nat) : ∀ (vs : List Value) (k : Nat) (w : World), (setAll w g k vs).heap.size = w.heap.size := by
  intro vs
  induction vs with
  | nil => intro k w; rfl
  | cons v vs ih => intro k w; rw [setAll, ih]; simp
theorem setAll_os (g : Nat) : ∀ (vs : List Value) (k : Nat) (w : World), (setAll w g k vs).os = w.os ∧ (setAll w g k vs).tape = w.tape ∧ (setAll w g k vs).output = w.output := by
  intro vs
  induction vs with
  | nil => intro k w; exact ⟨rfl, rfl, rfl⟩
  | cons v vs ih => intro k w; rw [setAll]; exact ih (k + 1) _
theorem setAll_blk {g : Nat} : ∀ (vs : List Value) (k : Nat) (cur : Array Value) (w : World), BlkS w g cur → k + vs.length = cur.size → BlkS (setAll w g k vs) g (cur.toList.take k ++ vs).toArray := by
  intro vs
  induction vs with
  | nil =>
    intro k cur w h hl
    rw [setAll, List.append_nil, List.take_of_length_le (by simp at hl ⊢; omega)]
    simpa using h
  | cons v vs ih =>
    intro k cur w h hl
    rw [setAll]
    have h1 := ih (k + 1) _ _ (h.set k v) (by simp at hl ⊢; omega)
    have e : (cur.setIfInBounds k v).toList.take (k + 1) = cur.toList.take k ++ [v] := by
      simp only [List.length_cons] at hl
      rw [Array.toList_setIfInBounds, List.take_succ_eq_append_getElem (by simp; omega), List.take_set_of_le (Nat.le_refl _)]
      simp
    rw [e, List.append_assoc] at h1
    exact h1
theorem BlkS.stay {w w' : World} {g : Nat} {cur : Array Value} (h : BlkS w g cur) (hb : w'.heap[g]? = w.heap[g]?) : BlkS w' g cur := hb.trans h
set_option linter.unusedSimpArgs false in
set_option maxRecDepth 100000 in
set_option maxHeartbeats 8000000 in
theorem toStmt_any (s : St) (A1 A2 : Option Addr) (c1 c2 B : Nat) (w : World) (hA1 : KidsAt w B A1 s.e.kids) (hA2 : KidsAt w B A2 s.t.kids) (hc1 : s.e.kids.length ≤ c1) (hc2 : s.t.kids.length ≤ c2) (hB : B ≤ w.heap.size) (hw : s.wt ≤ 2 ^ 29) :
    Calls Tryz.prog 51 #[.agg #[.int .i64 s.kind, .string s.name, .string s.typ, .int .i64 s.e.kind, .int .i64 s.e.n, .string s.e.s, .slice A1 s.e.kids.length c1, .int .i64 s.t.kind, .int .i64 s.t.n, .string s.t.s, .slice A2 s.t.kids.length c2]] w (CopiesS s w) := by
  obtain ⟨W0, hW0⟩ : ∃ W0, W0 = ((w.alloc (.cells #[.int .i64 s.kind, .string s.name, .string s.typ, .int .i64 s.e.kind, .int .i64 s.e.n, .string s.e.s, .slice A1 s.e.kids.length c1, .int .i64 s.t.kind, .int .i64 s.t.n, .string s.t.s, .slice A2 s.t.kids.length c2] 77)).alloc (.cells #[.int .i64 0, .string { data := #[] }, .string { data := #[] }, .int .i64 0, .int .i64 0, .string { data := #[] }, .slice none 0 0, .int .i64 0, .int .i64 0, .string { data := #[] }, .slice none 0 0] 35)).alloc (.cells #[.int .i64 s.kind, .string s.name, .string s.typ, .int .i64 0, .int .i64 0, .string { data := #[] }, .slice none 0 0, .int .i64 0, .int .i64 0, .string { data := #[] }, .slice none 0 0] 35) := ⟨_, rfl⟩
  have hb0 : Below w.heap.size w W0 := by rw [hW0]; exact (((Below.refl _ w).alloc (Nat.le_refl _) _).alloc (by simp) _).alloc (by simp; omega) _
  have hs0 : W0.heap.size = w.heap.size + 1 + 1 + 1 := by rw [hW0]; simp
  have hO0 : BlkS W0 (w.heap.size + 1 + 1) #[.int .i64 s.kind, .string s.name, .string s.typ, .int .i64 0, .int .i64 0, .string { data := #[] }, .slice none 0 0, .int .i64 0, .int .i64 0, .string { data := #[] }, .slice none 0 0] := by
    have := World.alloc_heap_new ((w.alloc (.cells #[.int .i64 s.kind, .string s.name, .string s.typ, .int .i64 s.e.kind, .int .i64 s.e.n, .string s.e.s, .slice A1 s.e.kids.length c1, .int .i64 s.t.kind, .int .i64 s.t.n, .string s.t.s, .slice A2 s.t.kids.length c2] 77)).alloc (.cells #[.int .i64 0, .string { data := #[] }, .string { data := #[] }, .int .i64 0, .int .i64 0, .string { data := #[] }, .slice none 0 0, .int .i64 0, .int .i64 0, .string { data := #[] }, .slice none 0 0] 35)) (.cells #[.int .i64 s.kind, .string s.name, .string s.typ, .int .i64 0, .int .i64 0, .string { data := #[] }, .slice none 0 0, .int .i64 0, .int .i64 0, .string { data := #[] }, .slice none 0 0] 35)
    rwa [World.size_alloc, World.size_alloc, ← hW0] at this
  have hR0 : BlkS W0 (w.heap.size + 1) #[.int .i64 0, .string { data := #[] }, .string { data := #[] }, .int .i64 0, .int .i64 0, .string { data := #[] }, .slice none 0 0, .int .i64 0, .int .i64 0, .string { data := #[] }, .slice none 0 0] := by
    have := World.alloc_heap_new (w.alloc (.cells #[.int .i64 s.kind, .string s.name, .string s.typ, .int .i64 s.e.kind, .int .i64 s.e.n, .string s.e.s, .slice A1 s.e.kids.length c1, .int .i64 s.t.kind, .int .i64 s.t.n, .string s.t.s, .slice A2 s.t.kids.length c2] 77)) (.cells #[.int .i64 0, .string { data := #[] }, .string { data := #[] }, .int .i64 0, .int .i64 0, .string { data := #[] }, .slice none 0 0, .int .i64 0, .int .i64 0, .string { data := #[] }, .slice none 0 0] 35)
    rw [World.size_alloc] at this
    unfold BlkS
    rw [hW0, Below.heap_alloc _ _ _ (by simp)]
    exact this
  have a0 : W0.cell? ⟨w.heap.size, 7, none⟩ = some (.int .i64 s.t.kind) := by rw [hW0]; exact (World.cell?_of_block (a := ⟨w.heap.size, 7, none⟩) (Below.heap_alloc _ _ _ (by simp; omega))).trans (cell_new2a w _ _ _ _ 7 _ rfl)
  have a1 : W0.cell? ⟨w.heap.size, 8, none⟩ = some (.int .i64 s.t.n) := by rw [hW0]; exact (World.cell?_of_block (a := ⟨w.heap.size, 8, none⟩) (Below.heap_alloc _ _ _ (by simp; omega))).trans (cell_new2a w _ _ _ _ 8 _ rfl)
  have a2 : W0.cell? ⟨w.heap.size, 9, none⟩ = some (.string s.t.s) := by rw [hW0]; exact (World.cell?_of_block (a := ⟨w.heap.size, 9, none⟩) (Below.heap_alloc _ _ _ (by simp; omega))).trans (cell_new2a w _ _ _ _ 9 _ rfl)
  have a3 : W0.cell? ⟨w.heap.size, 10, none⟩ = some (.slice A2 s.t.kids.length c2) := by rw [hW0]; exact (World.cell?_of_block (a := ⟨w.heap.size, 10, none⟩) (Below.heap_alloc _ _ _ (by simp; omega))).trans (cell_new2a w _ _ _ _ 10 _ rfl)
  have HE := Lib.hid (toExpr_any s.e A1 c1 B W0 (hA1.keep (hb0.mono hB)) hc1 (Nat.le_trans hB hb0.size) (by unfold St.wt at hw; omega))
  have HT := Lib.hid (fun (V : World) (hV : Below w.heap.size w V) => toExpr_any s.t A2 c2 B V (hA2.keep (hV.mono hB)) hc2 (Nat.le_trans hB hV.size) (by unfold St.wt at hw; omega))
  have HO0 := Lib.hid hO0
  have HR0 := Lib.hid hR0
  clear hA1 hA2 hO0 hR0
  go_enter Tryz.func51, Tryz.ntmps51
  go_wp2_with fail
  rw [← hW0]
  clear hW0
  refine HE.out.mono ?_
  rintro r w1 ⟨X1, k1, rfl, hk1, hO1, hb1⟩
  have hz1 := hb1.size
  have hO := HO0.out.stay (hb1.block _ HO0.out.lt)
  have x0 := (hb1.cell (p := ⟨w.heap.size, 7, none⟩) (by show w.heap.size < _; omega)).trans a0
  have x1 := (hb1.cell (p := ⟨w.heap.size, 8, none⟩) (by show w.heap.size < _; omega)).trans a1
  have x2 := (hb1.cell (p := ⟨w.heap.size, 9, none⟩) (by show w.heap.size < _; omega)).trans a2
  have x3 := (hb1.cell (p := ⟨w.heap.size, 10, none⟩) (by show w.heap.size < _; omega)).trans a3
  have e3 := hO.cell 3
  have f3 := hO.frozen 3
  have e4 := hO.cell 4
  have f4 := hO.frozen 4
  have e5 := hO.cell 5
  have f5 := hO.frozen 5
  have e6 := hO.cell 6
  have f6 := hO.frozen 6
  simp only [List.getElem?_toArray, List.getElem?_cons_zero, List.getElem?_cons_succ] at e3 e4 e5 e6
  obtain ⟨V1, hV1⟩ : ∃ V1, V1 = ((((w1.setCell ⟨w.heap.size + 1 + 1, 3, none⟩ (.int .i64 s.e.kind)).setCell ⟨w.heap.size + 1 + 1, 4, none⟩ (.int .i64 s.e.n)).setCell ⟨w.heap.size + 1 + 1, 5, none⟩ (.string s.e.s)).setCell ⟨w.heap.size + 1 + 1, 6, none⟩ (.slice X1 s.e.kids.length k1)) := ⟨_, rfl⟩
  have hO2 : BlkS V1 (w.heap.size + 1 + 1) #[.int .i64 s.kind, .string s.name, .string s.typ, .int .i64 s.e.kind, .int .i64 s.e.n, .string s.e.s, .slice X1 s.e.kids.length k1, .int .i64 0, .int .i64 0, .string { data := #[] }, .slice none 0 0] := by rw [hV1]; exact (((hO.set 3 _).set 4 _).set 5 _).set 6 _
  have hsame : ∀ k, k ≠ w.heap.size + 1 + 1 → V1.heap[k]? = w1.heap[k]? := fun k hk => by rw [hV1]; rw [Below.heap_setCell _ _ _ k hk, Below.heap_setCell _ _ _ k hk, Below.heap_setCell _ _ _ k hk, Below.heap_setCell _ _ _ k hk]
  have hzV : V1.heap.size = w1.heap.size := by rw [hV1]; simp
  have hbV : Below w.heap.size w V1 := (hb0.trans (hb1.mono hb0.size)).trans ⟨by rw [hV1]; rfl, by rw [hV1]; rfl, by rw [hV1]; rfl, by omega, fun k hk => hsame k (by omega)⟩
  have v0 : V1.cell? ⟨w.heap.size, 7, none⟩ = some (.int .i64 s.t.kind) := (World.cell?_of_block (a := ⟨w.heap.size, 7, none⟩) (hsame _ (by show w.heap.size ≠ _; omega))).trans x0
  have v1 : V1.cell? ⟨w.heap.size, 8, none⟩ = some (.int .i64 s.t.n) := (World.cell?_of_block (a := ⟨w.heap.size, 8, none⟩) (hsame _ (by show w.heap.size ≠ _; omega))).trans x1
  have v2 : V1.cell? ⟨w.heap.size, 9, none⟩ = some (.string s.t.s) := (World.cell?_of_block (a := ⟨w.heap.size, 9, none⟩) (hsame _ (by show w.heap.size ≠ _; omega))).trans x2
  have v3 : V1.cell? ⟨w.heap.size, 10, none⟩ = some (.slice A2 s.t.kids.length c2) := (World.cell?_of_block (a := ⟨w.heap.size, 10, none⟩) (hsame _ (by show w.heap.size ≠ _; omega))).trans x3
  have HT1 := Lib.hid (HT.out V1 hbV)
  have HO2 := Lib.hid hO2
  have HR2 := Lib.hid ((HR0.out.stay (hb1.block _ HR0.out.lt)).stay (hsame _ (by omega)))
  have HOW1 := Lib.hid (own_keep s.e _ _ X1 (fun k h1 h2 => hsame k (by omega)) hO1)
  have HBV := Lib.hid hbV
  clear hO hO2 hsame hbV HE HT HO0 HR0 hO1 a0 a1 a2 a3 hb1 hb0
  rw [hV1] at v0 v1 v2 v3
  go_wp2_with fail
  rw [← hV1]
  clear hV1 v0 v1 v2 v3 x0 x1 x2 x3 e3 e4 e5 e6 f3 f4 f5 f6
  refine HT1.out.mono ?_
  rintro r w2 ⟨X2, k2, rfl, hk2, hO2', hb2⟩
  have hz2 := hb2.size
  have hO3 := HO2.out.stay (hb2.block _ HO2.out.lt)
  have hR3 := HR2.out.stay (hb2.block _ HR2.out.lt)
  have e0 := hO3.cell 0
  have e1 := hO3.cell 1
  have e2 := hO3.cell 2
  have e3 := hO3.cell 3
  have e4 := hO3.cell 4
  have e5 := hO3.cell 5
  have e6 := hO3.cell 6
  have e7 := hO3.cell 7
  have e8 := hO3.cell 8
  have e9 := hO3.cell 9
  have e10 := hO3.cell 10
  have f7 := hO3.frozen 7
  have f8 := hO3.frozen 8
  have f9 := hO3.frozen 9
  have f10 := hO3.frozen 10
  have r0 := hR3.cell 0
  have g0 := hR3.frozen 0
  have r1 := hR3.cell 1
  have g1 := hR3.frozen 1
  have r2 := hR3.cell 2
  have g2 := hR3.frozen 2
  have r3 := hR3.cell 3
  have g3 := hR3.frozen 3
  have r4 := hR3.cell 4
  have g4 := hR3.frozen 4
  have r5 := hR3.cell 5
  have g5 := hR3.frozen 5
  have r6 := hR3.cell 6
  have g6 := hR3.frozen 6
  have r7 := hR3.cell 7
  have g7 := hR3.frozen 7
  have r8 := hR3.cell 8
  have g8 := hR3.frozen 8
  have r9 := hR3.cell 9
  have g9 := hR3.frozen 9
  have r10 := hR3.cell 10
  have g10 := hR3.frozen 10
  simp only [List.getElem?_toArray, List.getElem?_cons_zero, List.getElem?_cons_succ] at e0 e1 e2 e3 e4 e5 e6 e7 e8 e9 e10 r0 r1 r2 r3 r4 r5 r6 r7 r8 r9 r10
  obtain ⟨V2, hV2⟩ : ∃ V2, V2 = ((((w2.setCell ⟨w.heap.size + 1 + 1, 7, none⟩ (.int .i64 s.t.kind)).setCell ⟨w.heap.size + 1 + 1, 8, none⟩ (.int .i64 s.t.n)).setCell ⟨w.heap.size + 1 + 1, 9, none⟩ (.string s.t.s)).setCell ⟨w.heap.size + 1 + 1, 10, none⟩ (.slice X2 s.t.kids.length k2)) := ⟨_, rfl⟩
  have hO4 : BlkS V2 (w.heap.size + 1 + 1) #[.int .i64 s.kind, .string s.name, .string s.typ, .int .i64 s.e.kind, .int .i64 s.e.n, .string s.e.s, .slice X1 s.e.kids.length k1, .int .i64 s.t.kind, .int .i64 s.t.n, .string s.t.s, .slice X2 s.t.kids.length k2] := by rw [hV2]; exact (((hO3.set 7 _).set 8 _).set 9 _).set 10 _
  have hsame2 : ∀ k, k ≠ w.heap.size + 1 + 1 → V2.heap[k]? = w2.heap[k]? := fun k hk => by rw [hV2]; rw [Below.heap_setCell _ _ _ k hk, Below.heap_setCell _ _ _ k hk, Below.heap_setCell _ _ _ k hk, Below.heap_setCell _ _ _ k hk]
  have hzV2 : V2.heap.size = w2.heap.size := by rw [hV2]; simp
  have o0 := hO4.cell 0
  have o1 := hO4.cell 1
  have o2 := hO4.cell 2
  have o3 := hO4.cell 3
  have o4 := hO4.cell 4
  have o5 := hO4.cell 5
  have o6 := hO4.cell 6
  have o7 := hO4.cell 7
  have o8 := hO4.cell 8
  have o9 := hO4.cell 9
  have o10 := hO4.cell 10
  simp only [List.getElem?_toArray, List.getElem?_cons_zero, List.getElem?_cons_succ] at o0 o1 o2 o3 o4 o5 o6 o7 o8 o9 o10
  have HR3 := Lib.hid hR3
  have HO4 := Lib.hid hO4
  have HSAME := Lib.hid hsame2
  have HOW2 := Lib.hid hO2'
  have HB2 := Lib.hid hb2
  rw [hV2] at o0 o1 o2 o3 o4 o5 o6 o7 o8 o9 o10
  clear hO3 hR3 hO4 hsame2 hO2' hb2 HT1 HO2 e0 e1 e2 e3 e4 e5 e6
  go_wp2_with fail
  rw [← hV2]
  obtain ⟨wn, hwn⟩ : ∃ wn, wn = (((((((((((V2.setCell ⟨w.heap.size + 1, 0, none⟩ (.int .i64 s.kind)).setCell ⟨w.heap.size + 1, 1, none⟩ (.string s.name)).setCell ⟨w.heap.size + 1, 2, none⟩ (.string s.typ)).setCell ⟨w.heap.size + 1, 3, none⟩ (.int .i64 s.e.kind)).setCell ⟨w.heap.size + 1, 4, none⟩ (.int .i64 s.e.n)).setCell ⟨w.heap.size + 1, 5, none⟩ (.string s.e.s)).setCell ⟨w.heap.size + 1, 6, none⟩ (.slice X1 s.e.kids.length k1)).setCell ⟨w.heap.size + 1, 7, none⟩ (.int .i64 s.t.kind)).setCell ⟨w.heap.size + 1, 8, none⟩ (.int .i64 s.t.n)).setCell ⟨w.heap.size + 1, 9, none⟩ (.string s.t.s)).setCell ⟨w.heap.size + 1, 10, none⟩ (.slice X2 s.t.kids.length k2)) := ⟨_, rfl⟩
  rw [← hwn]
  have hRV := HR3.out.stay (HSAME.out (w.heap.size + 1) (by omega))
  have hwa : wn = setAll V2 (w.heap.size + 1) 0 [.int .i64 s.kind, .string s.name, .string s.typ, .int .i64 s.e.kind, .int .i64 s.e.n, .string s.e.s, .slice X1 s.e.kids.length k1, .int .i64 s.t.kind, .int .i64 s.t.n, .string s.t.s, .slice X2 s.t.kids.length k2] := by rw [hwn]; rfl
  have hRn : BlkS wn (w.heap.size + 1) #[.int .i64 s.kind, .string s.name, .string s.typ, .int .i64 s.e.kind, .int .i64 s.e.n, .string s.e.s, .slice X1 s.e.kids.length k1, .int .i64 s.t.kind, .int .i64 s.t.n, .string s.t.s, .slice X2 s.t.kids.length k2] := by rw [hwa]; exact setAll_blk [.int .i64 s.kind, .string s.name, .string s.typ, .int .i64 s.e.kind, .int .i64 s.e.n, .string s.e.s, .slice X1 s.e.kids.length k1, .int .i64 s.t.kind, .int .i64 s.t.n, .string s.t.s, .slice X2 s.t.kids.length k2] 0 _ V2 hRV rfl
  have hsn : ∀ k, k ≠ w.heap.size + 1 → wn.heap[k]? = V2.heap[k]? := fun k hk => by rw [hwa]; exact setAll_other _ _ _ _ hk
  have hzn : wn.heap.size = V2.heap.size := by rw [hwa]; exact setAll_size _ _ _ _
  have hosn : wn.os = V2.os ∧ wn.tape = V2.tape ∧ wn.output = V2.output := by rw [hwa]; exact setAll_os _ _ _ _
  clear hwn hwa
  have q0 := hRn.cell 0
  have q1 := hRn.cell 1
  have q2 := hRn.cell 2
  have q3 := hRn.cell 3
  have q4 := hRn.cell 4
  have q5 := hRn.cell 5
  have q6 := hRn.cell 6
  have q7 := hRn.cell 7
  have q8 := hRn.cell 8
  have q9 := hRn.cell 9
  have q10 := hRn.cell 10
  simp only [List.getElem?_toArray, List.getElem?_cons_zero, List.getElem?_cons_succ] at q0 q1 q2 q3 q4 q5 q6 q7 q8 q9 q10
  refine bodyPost_ret (v := .agg #[.int .i64 s.kind, .string s.name, .string s.typ, .int .i64 s.e.kind, .int .i64 s.e.n, .string s.e.s, .slice X1 s.e.kids.length k1, .int .i64 s.t.kind, .int .i64 s.t.n, .string s.t.s, .slice X2 s.t.kids.length k2]) (by simp [results, Tryz.results51, go_sem, q0, q1, q2, q3, q4, q5, q6, q7, q8, q9, q10]) rfl ?_
  have hk : ∀ k, k ≠ w.heap.size + 1 → k ≠ w.heap.size + 1 + 1 → wn.heap[k]? = w2.heap[k]? := fun k h1 h2 => (hsn k h1).trans (HSAME.out k h2)
  refine ⟨X1, k1, X2, k2, V1.heap.size, rfl, hk1, hk2, ?_, ?_, ?_⟩
  · exact own_wide (own_keep s.e _ _ X1 (fun k h1 h2 => (hk k (by omega) (by omega)).trans (HB2.out.block k (by omega))) HOW1.out) (by omega) (by omega)
  · rw [hzn, hzV2]
    exact own_keep s.t _ _ X2 (fun k h1 h2 => hk k (by omega) (by omega)) HOW2.out
  · exact HBV.out.trans ((HB2.out.mono HBV.out.size).trans ⟨hosn.1.trans (by rw [hV2]; rfl), hosn.2.1.trans (by rw [hV2]; rfl), hosn.2.2.trans (by rw [hV2]; rfl), by omega, fun k hk' => hk k (by omega) (by omega)⟩)
end Go.Proofs.YtfknelkbdoiokaaGreatDoor

namespace Go.Proofs.YtfknelkbdoiokaaGreatDoor
open Go.RowKit

/-- No text and no list is longer than can be. -/
def Br.fits (s : Br) : Prop := s.name.size ≤ maxLen ∧ s.e.fits ∧ s.t.fits
set_option maxRecDepth 100000 in
set_option maxHeartbeats 4000000 in
theorem eqBare_same (s : Br) (A1 A2 B1 B2 : Option Addr) (c1 c2 d1 d2 B : Nat) (w : World) (hA1 : KidsAt w B A1 s.e.kids) (hA2 : KidsAt w B A2 s.t.kids) (hB1 : KidsAt w B B1 s.e.kids) (hB2 : KidsAt w B B2 s.t.kids)
    (hc1 : s.e.kids.length ≤ c1) (hc2 : s.t.kids.length ≤ c2) (hd1 : s.e.kids.length ≤ d1) (hd2 : s.t.kids.length ≤ d2) (hB : B ≤ w.heap.size) (hw : s.wt ≤ 2 ^ 29) :
    Calls Tryz.prog 52 #[.agg #[.int .i64 s.kind, .string s.name, .int .i64 s.e.kind, .int .i64 s.e.n, .string s.e.s, .slice A1 s.e.kids.length c1, .int .i64 s.t.kind, .int .i64 s.t.n, .string s.t.s, .slice A2 s.t.kids.length c2], .agg #[.int .i64 s.kind, .string s.name, .int .i64 s.e.kind, .int .i64 s.e.n, .string s.e.s, .slice B1 s.e.kids.length d1, .int .i64 s.t.kind, .int .i64 s.t.n, .string s.t.s, .slice B2 s.t.kids.length d2]] w fun r w' => r = .returned (.bool true) ∧ Below w.heap.size w w' := by
  obtain ⟨W0, hW0⟩ : ∃ W0, W0 = (w.alloc (.cells #[.int .i64 s.kind, .string s.name, .int .i64 s.e.kind, .int .i64 s.e.n, .string s.e.s, .slice A1 s.e.kids.length c1, .int .i64 s.t.kind, .int .i64 s.t.n, .string s.t.s, .slice A2 s.t.kids.length c2] 52)).alloc (.cells #[.int .i64 s.kind, .string s.name, .int .i64 s.e.kind, .int .i64 s.e.n, .string s.e.s, .slice B1 s.e.kids.length d1, .int .i64 s.t.kind, .int .i64 s.t.n, .string s.t.s, .slice B2 s.t.kids.length d2] 52) := ⟨_, rfl⟩
  have hb0 : Below w.heap.size w W0 := by rw [hW0]; exact ((Below.refl _ w).alloc (Nat.le_refl _) _).alloc (by simp) _
  have hs0 : w.heap.size + 1 < W0.heap.size := by rw [hW0]; simp
  have a0 : W0.cell? ⟨w.heap.size, 6, none⟩ = some (.int .i64 s.t.kind) := by rw [hW0]; exact cell_new2a w _ _ _ _ 6 _ rfl
  have b0 : W0.cell? ⟨w.heap.size + 1, 6, none⟩ = some (.int .i64 s.t.kind) := by rw [hW0]; exact cell_new2b w _ _ _ _ 6 _ rfl
  have a1 : W0.cell? ⟨w.heap.size, 7, none⟩ = some (.int .i64 s.t.n) := by rw [hW0]; exact cell_new2a w _ _ _ _ 7 _ rfl
  have b1 : W0.cell? ⟨w.heap.size + 1, 7, none⟩ = some (.int .i64 s.t.n) := by rw [hW0]; exact cell_new2b w _ _ _ _ 7 _ rfl
  have a2 : W0.cell? ⟨w.heap.size, 8, none⟩ = some (.string s.t.s) := by rw [hW0]; exact cell_new2a w _ _ _ _ 8 _ rfl
  have b2 : W0.cell? ⟨w.heap.size + 1, 8, none⟩ = some (.string s.t.s) := by rw [hW0]; exact cell_new2b w _ _ _ _ 8 _ rfl
  have a3 : W0.cell? ⟨w.heap.size, 9, none⟩ = some (.slice A2 s.t.kids.length c2) := by rw [hW0]; exact cell_new2a w _ _ _ _ 9 _ rfl
  have b3 : W0.cell? ⟨w.heap.size + 1, 9, none⟩ = some (.slice B2 s.t.kids.length d2) := by rw [hW0]; exact cell_new2b w _ _ _ _ 9 _ rfl
  have HE := Lib.hid (eqExpr_same s.e A1 B1 c1 d1 B W0 (hA1.keep (hb0.mono hB)) (hB1.keep (hb0.mono hB)) hc1 hd1 (Nat.le_trans hB hb0.size) (by unfold Br.wt at hw; omega))
  have HT := Lib.hid (fun (V : World) (hV : Below W0.heap.size W0 V) => eqExpr_same s.t A2 B2 c2 d2 B V (hA2.keep ((hb0.trans (hV.mono hb0.size)).mono hB)) (hB2.keep ((hb0.trans (hV.mono hb0.size)).mono hB)) hc2 hd2 (Nat.le_trans hB (Nat.le_trans hb0.size hV.size)) (by unfold Br.wt at hw; omega))
  clear hA1 hA2 hB1 hB2
  have q1 : (s.kind != s.kind) = false := by simp
  have q2 : (!s.name.toList == s.name.toList) = false := by simp
  go_enter Tryz.func52, Tryz.ntmps52
  go_wp2_with fail
  rw [← hW0]
  clear hW0
  refine HE.out.mono ?_
  rintro r w1 ⟨rfl, hb1⟩
  have x0 := (hb1.cell (p := ⟨w.heap.size, 6, none⟩) (by show w.heap.size < _; omega)).trans a0
  have y0 := (hb1.cell (p := ⟨w.heap.size + 1, 6, none⟩) hs0).trans b0
  have x1 := (hb1.cell (p := ⟨w.heap.size, 7, none⟩) (by show w.heap.size < _; omega)).trans a1
  have y1 := (hb1.cell (p := ⟨w.heap.size + 1, 7, none⟩) hs0).trans b1
  have x2 := (hb1.cell (p := ⟨w.heap.size, 8, none⟩) (by show w.heap.size < _; omega)).trans a2
  have y2 := (hb1.cell (p := ⟨w.heap.size + 1, 8, none⟩) hs0).trans b2
  have x3 := (hb1.cell (p := ⟨w.heap.size, 9, none⟩) (by show w.heap.size < _; omega)).trans a3
  have y3 := (hb1.cell (p := ⟨w.heap.size + 1, 9, none⟩) hs0).trans b3
  clear a0 a1 a2 a3 b0 b1 b2 b3
  go_wp2_with fail
  refine (HT.out w1 hb1).mono ?_
  rintro r w2 ⟨rfl, hb2⟩
  have hb12 := hb1.trans (hb2.mono hb1.size)
  go_wp2_with fail
  go_ret
  exact ⟨rfl, hb0.trans (hb12.mono hb0.size)⟩
def BlkB (w : World) (g : Nat) (cur : Array Value) : Prop := w.heap[g]? = some (.cells cur 52 (0, 0))
theorem BlkB.lt {w : World} {g : Nat} {cur : Array Value} (h : BlkB w g cur) : g < w.heap.size := (Array.getElem?_eq_some_iff.1 h).1
theorem BlkB.cell {w : World} {g : Nat} {cur : Array Value} (h : BlkB w g cur) (i : Nat) : w.cell? ⟨g, i, none⟩ = cur[i]? := by simp [World.cell?, show w.heap[g]? = _ from h]
theorem BlkB.frozen {w : World} {g : Nat} {cur : Array Value} (h : BlkB w g cur) (i : Nat) : w.frozen? ⟨g, i, none⟩ = false := by simp [World.frozen?, show w.heap[g]? = _ from h]
theorem BlkB.set {w : World} {g : Nat} {cur : Array Value} (h : BlkB w g cur) (i : Nat) (v : Value) : BlkB (w.setCell ⟨g, i, none⟩ v) g (cur.setIfInBounds i v) := heap_setCell_same w g i cur _ v h
def setAllB (w : World) (g : Nat) : Nat → List Value → World
  | _, [] => w
  | k, v :: vs => setAllB (w.setCell ⟨g, k, none⟩ v) g (k + 1) vs
theorem setAllB_other (g : Nat) : ∀ (vs : List Value) (k : Nat) (w : World) {b : Nat}, b ≠ g → (setAllB w g k vs).heap[b]? = w.heap[b]? := by
  intro vs
  induction vs with
  | nil => intro k w b _; rfl
  | cons v vs ih => intro k w b hb; rw [setAllB, ih (k + 1) _ hb]; exact Below.heap_setCell _ _ _ b hb
theorem setAllB_size (g : Nat) : ∀ (vs : List Value) (k : Nat) (w : World), (setAllB w g k vs).heap.size = w.heap.size := by
  intro vs
  induction vs with
  | nil => intro k w; rfl
  | cons v vs ih => intro k w; rw [setAllB, ih]; simp
theorem setAllB_os (g : Nat) : ∀ (vs : List Value) (k : Nat) (w : World), (setAllB w g k vs).os = w.os ∧ (setAllB w g k vs).tape = w.tape ∧ (setAllB w g k vs).output = w.output := by
  intro vs
  induction vs with
  | nil => intro k w; exact ⟨rfl, rfl, rfl⟩
  | cons v vs ih => intro k w; rw [setAllB]; exact ih (k + 1) _
theorem setAllB_blk {g : Nat} : ∀ (vs : List Value) (k : Nat) (cur : Array Value) (w : World), BlkB w g cur → k + vs.length = cur.size → BlkB (setAllB w g k vs) g (cur.toList.take k ++ vs).toArray := by
  intro vs
  induction vs with
  | nil =>
    intro k cur w h hl
    rw [setAllB, List.append_nil, List.take_of_length_le (by simp at hl ⊢; omega)]
    simpa using h
  | cons v vs ih =>
    intro k cur w h hl
    rw [setAllB]
    have h1 := ih (k + 1) _ _ (h.set k v) (by simp at hl ⊢; omega)
    have e : (cur.setIfInBounds k v).toList.take (k + 1) = cur.toList.take k ++ [v] := by
      simp only [List.length_cons] at hl
      rw [Array.toList_setIfInBounds, List.take_succ_eq_append_getElem (by simp; omega), List.take_set_of_le (Nat.le_refl _)]
      simp
    rw [e, List.append_assoc] at h1
    exact h1
theorem BlkB.stay {w w' : World} {g : Nat} {cur : Array Value} (h : BlkB w g cur) (hb : w'.heap[g]? = w.heap[g]?) : BlkB w' g cur := hb.trans h
end Go.Proofs.YtfknelkbdoiokaaGreatDoor
