/-
  DrawBr, DrawBb: these texts one behind the other, as a claim holds at most 60 files.
-/
import Derived.Test.YtkllhnhinealfaaGreatDoorDrawSt
import Derived.Test.YtkllhnhinealfaaGreatDoorGJ
import Derived.Test.YtkllhnhinealfaaGreatDoorGA
namespace Go.Proofs.YtkllhnhinealfaaGreatDoor
open Go.RowKit

def BlkQ (w : World) (g : Nat) (cur : Array Value) : Prop := w.heap[g]? = some (.cells cur 33 (0, 0))
theorem BlkQ.lt {w : World} {g : Nat} {cur : Array Value} (h : BlkQ w g cur) : g < w.heap.size := (Array.getElem?_eq_some_iff.1 h).1
theorem BlkQ.cell {w : World} {g : Nat} {cur : Array Value} (h : BlkQ w g cur) (i : Nat) : w.cell? ⟨g, i, none⟩ = cur[i]? := by simp [World.cell?, show w.heap[g]? = _ from h]
theorem BlkQ.frozen {w : World} {g : Nat} {cur : Array Value} (h : BlkQ w g cur) (i : Nat) : w.frozen? ⟨g, i, none⟩ = false := by simp [World.frozen?, show w.heap[g]? = _ from h]
theorem BlkQ.set {w : World} {g : Nat} {cur : Array Value} (h : BlkQ w g cur) (i : Nat) (v : Value) : BlkQ (w.setCell ⟨g, i, none⟩ v) g (cur.setIfInBounds i v) := heap_setCell_same w g i cur _ v h
def setAllQ (w : World) (g : Nat) : Nat → List Value → World
  | _, [] => w
  | k, v :: vs => setAllQ (w.setCell ⟨g, k, none⟩ v) g (k + 1) vs
theorem setAllQ_other (g : Nat) : ∀ (vs : List Value) (k : Nat) (w : World) {b : Nat}, b ≠ g → (setAllQ w g k vs).heap[b]? = w.heap[b]? := by
  intro vs
  induction vs with
  | nil => intro k w b _; rfl
  | cons v vs ih => intro k w b hb; rw [setAllQ, ih (k + 1) _ hb]; exact Below.heap_setCell _ _ _ b hb
theorem setAllQ_size (g : Nat) : ∀ (vs : List Value) (k : Nat) (w : World), (setAllQ w g k vs).heap.size = w.heap.size := by
  intro vs
  induction vs with
  | nil => intro k w; rfl
  | cons v vs ih => intro k w; rw [setAllQ, ih]; simp
theorem setAllQ_os (g : Nat) : ∀ (vs : List Value) (k : Nat) (w : World), (setAllQ w g k vs).os = w.os ∧ (setAllQ w g k vs).tape = w.tape ∧ (setAllQ w g k vs).output = w.output := by
  intro vs
  induction vs with
  | nil => intro k w; exact ⟨rfl, rfl, rfl⟩
  | cons v vs ih => intro k w; rw [setAllQ]; exact ih (k + 1) _
theorem setAllQ_blk {g : Nat} : ∀ (vs : List Value) (k : Nat) (cur : Array Value) (w : World), BlkQ w g cur → k + vs.length = cur.size → BlkQ (setAllQ w g k vs) g (cur.toList.take k ++ vs).toArray := by
  intro vs
  induction vs with
  | nil =>
    intro k cur w h hl
    rw [setAllQ, List.append_nil, List.take_of_length_le (by simp at hl ⊢; omega)]
    simpa using h
  | cons v vs ih =>
    intro k cur w h hl
    rw [setAllQ]
    have h1 := ih (k + 1) _ _ (h.set k v) (by simp at hl ⊢; omega)
    have e : (cur.setIfInBounds k v).toList.take (k + 1) = cur.toList.take k ++ [v] := by
      simp only [List.length_cons] at hl
      rw [Array.toList_setIfInBounds, List.take_succ_eq_append_getElem (by simp; omega), List.take_set_of_le (Nat.le_refl _)]
      simp
    rw [e, List.append_assoc] at h1
    exact h1
theorem BlkQ.stay {w w' : World} {g : Nat} {cur : Array Value} (h : BlkQ w g cur) (hb : w'.heap[g]? = w.heap[g]?) : BlkQ w' g cur := hb.trans h

/-- Kids in memory from this block on. -/
def KidsIn (lo : Nat) (W : World) (A : Option Addr) (ks : List Ex) : Prop := KidsS W (fun b => lo ≤ b ∧ b < W.heap.size) A ks
/-- A line without types is handed back; the kids lie in memory that was not there before. -/
def GivesBare (s : Br) (w : World) (r : Ending) (w' : World) : Prop :=
  ∃ A1 A2 c1 c2, r = .returned (.agg #[.int .i64 s.kind, .string s.name, .int .i64 s.e.kind, .int .i64 s.e.n, .string s.e.s, .slice A1 s.e.kids.length c1, .int .i64 s.t.kind, .int .i64 s.t.n, .string s.t.s, .slice A2 s.t.kids.length c2]) ∧ s.e.kids.length ≤ c1 ∧ s.t.kids.length ≤ c2 ∧ KidsIn w.heap.size w' A1 s.e.kids ∧ KidsIn w.heap.size w' A2 s.t.kids ∧ Below w.heap.size w w'
theorem three_boxes (X V : World) (A B C : Array Value) (h : V = ((X.alloc (.cells A 27)).alloc (.cells B 33)).alloc (.cells C 33)) :
    V.heap.size = X.heap.size + 1 + 1 + 1 ∧ BlkS V X.heap.size A ∧ BlkQ V (X.heap.size + 1) B ∧ BlkQ V (X.heap.size + 1 + 1) C ∧ Below X.heap.size X V := by
  subst h
  refine ⟨by simp, ?_, ?_, ?_, (((Below.refl _ X).alloc (Nat.le_refl _) _).alloc (by simp) _).alloc (by simp <;> omega) _⟩
  · unfold BlkS
    rw [Below.heap_alloc _ _ _ (by simp <;> omega), Below.heap_alloc _ _ _ (by simp)]
    exact World.alloc_heap_new X _
  · have h := World.alloc_heap_new (X.alloc (.cells A 27)) (.cells B 33)
    rw [World.size_alloc] at h
    unfold BlkQ
    rw [Below.heap_alloc _ _ _ (by simp)]
    exact h
  · have h := World.alloc_heap_new ((X.alloc (.cells A 27)).alloc (.cells B 33)) (.cells C 33)
    rw [World.size_alloc, World.size_alloc] at h
    exact h
theorem below_of {W W' : World} {B b : Nat} (hb : B ≤ b) (hz : W'.heap.size = W.heap.size) (hk : ∀ j, j ≠ b → W'.heap[j]? = W.heap[j]?) (ho : W'.os = W.os ∧ W'.tape = W.tape ∧ W'.output = W.output) : Below B W W' := ⟨ho.1, ho.2.1, ho.2.2, by omega, fun j hj => hk j (by omega)⟩
set_option linter.unusedVariables false in
set_option linter.unusedSimpArgs false in
set_option maxRecDepth 100000 in
set_option maxHeartbeats 8000000 in
theorem l7Of_zero (n t : ByteArray) (e x : Ex) (A1 A2 : Option Addr) (c1 c2 : Nat) (w : World) :
    Calls Tryz.prog 74 #[stV ⟨0, n, t, e, x⟩ A1 A2 c1 c2] w (GivesBare ⟨0, n, Ex.zero, Ex.zero⟩ w) := by
  unfold stV
  go_enter Tryz.func74, Tryz.ntmps74
  go_wp2_with fail
  obtain ⟨W3, hW3⟩ : ∃ W3, W3 = ((w.alloc (.cells #[.int .i64 0, .string n, .string t, .int .i64 e.kind, .int .i64 e.n, .string e.s, .slice A1 e.kids.length c1, .int .i64 x.kind, .int .i64 x.n, .string x.s, .slice A2 x.kids.length c2] 27)).alloc (.cells #[.int .i64 0, .string n, .int .i64 0, .int .i64 0, .string { data := #[] }, .slice none 0 0, .int .i64 0, .int .i64 0, .string { data := #[] }, .slice none 0 0] 33)).alloc (.cells #[.int .i64 0, .string n, .int .i64 0, .int .i64 0, .string { data := #[] }, .slice none 0 0, .int .i64 0, .int .i64 0, .string { data := #[] }, .slice none 0 0] 33) := ⟨_, rfl⟩
  obtain ⟨hz3, hB0, hB1, hB2, hbw⟩ := three_boxes w W3 _ _ _ hW3
  rw [← hW3]
  have r0 := hB1.cell 0
  have r1 := hB1.cell 1
  have r2 := hB1.cell 2
  have r3 := hB1.cell 3
  have r4 := hB1.cell 4
  have r5 := hB1.cell 5
  have r6 := hB1.cell 6
  have r7 := hB1.cell 7
  have r8 := hB1.cell 8
  have r9 := hB1.cell 9
  simp only [List.getElem?_toArray, List.getElem?_cons_zero, List.getElem?_cons_succ] at r0 r1 r2 r3 r4 r5 r6 r7 r8 r9
  refine bodyPost_ret (v := .agg #[.int .i64 0, .string n, .int .i64 0, .int .i64 0, .string { data := #[] }, .slice none 0 0, .int .i64 0, .int .i64 0, .string { data := #[] }, .slice none 0 0]) (by simp [results, Tryz.results74, go_sem, r0, r1, r2, r3, r4, r5, r6, r7, r8, r9]) rfl ?_
  exact ⟨none, none, 0, 0, rfl, Nat.le_refl _, Nat.le_refl _, .nil, .nil, hbw⟩
set_option linter.unusedVariables false in
set_option linter.unusedSimpArgs false in
set_option maxRecDepth 100000 in
set_option maxHeartbeats 8000000 in
theorem l7Of_one (k : Int) (hk0 : k ≠ 0) (hk3 : k ≠ 3) (n t : ByteArray) (p : Pt) (x : Ex) (A1 A2 : Option Addr) (c1 c2 B : Nat) (w : World) (hA : KidsAt w B A1 p.ex.kids) (hc : p.ex.kids.length ≤ c1) (hB : B ≤ w.heap.size) :
    Calls Tryz.prog 74 #[stV ⟨k, n, t, p.ex, x⟩ A1 A2 c1 c2] w (GivesBare ⟨k, n, p.bare.ex, Ex.zero⟩ w) := by
  have qk0 : (k != 0) = true := by simpa using hk0
  have qk3 : (k == 3) = false := by simpa using hk3
  obtain ⟨W3, hW3⟩ : ∃ W3, W3 = ((w.alloc (.cells #[.int .i64 k, .string n, .string t, .int .i64 p.ex.kind, .int .i64 p.ex.n, .string p.ex.s, .slice A1 p.ex.kids.length c1, .int .i64 x.kind, .int .i64 x.n, .string x.s, .slice A2 x.kids.length c2] 27)).alloc (.cells #[.int .i64 0, .string { data := #[] }, .int .i64 0, .int .i64 0, .string { data := #[] }, .slice none 0 0, .int .i64 0, .int .i64 0, .string { data := #[] }, .slice none 0 0] 33)).alloc (.cells #[.int .i64 k, .string n, .int .i64 0, .int .i64 0, .string { data := #[] }, .slice none 0 0, .int .i64 0, .int .i64 0, .string { data := #[] }, .slice none 0 0] 33) := ⟨_, rfl⟩
  obtain ⟨hz3, hB0, hB1, hB2, hbw⟩ := three_boxes w W3 #[.int .i64 k, .string n, .string t, .int .i64 p.ex.kind, .int .i64 p.ex.n, .string p.ex.s, .slice A1 p.ex.kids.length c1, .int .i64 x.kind, .int .i64 x.n, .string x.s, .slice A2 x.kids.length c2] #[.int .i64 0, .string { data := #[] }, .int .i64 0, .int .i64 0, .string { data := #[] }, .slice none 0 0, .int .i64 0, .int .i64 0, .string { data := #[] }, .slice none 0 0] #[.int .i64 k, .string n, .int .i64 0, .int .i64 0, .string { data := #[] }, .slice none 0 0, .int .i64 0, .int .i64 0, .string { data := #[] }, .slice none 0 0] hW3
  have HC := Lib.hid (l4Bare_any p A1 c1 B W3 (hA.keep (hbw.mono hB)) hc (by omega))
  have H0 := Lib.hid hB0
  have H1 := Lib.hid hB1
  have H2 := Lib.hid hB2
  have HBW := Lib.hid hbw
  clear hB0 hB1 hB2 hbw hA
  unfold stV
  go_enter Tryz.func74, Tryz.ntmps74
  go_wp2_with fail
  rw [← hW3]
  clear hW3
  refine HC.out.mono ?_
  rintro r w4 ⟨A5, c5, rfl, hc5, hK5, hb4⟩
  have hz4 := hb4.size
  have h0 := H0.out.stay (hb4.block _ (by omega))
  have h1 := H1.out.stay (hb4.block _ (by omega))
  have h2 := H2.out.stay (hb4.block _ (by omega))
  have HK5 := Lib.hid hK5
  have HB4 := Lib.hid hb4
  clear HC hK5 hb4 H0 H1 H2
  have a0 := h0.cell 0
  simp only [List.getElem?_toArray, List.getElem?_cons_zero, List.getElem?_cons_succ] at a0

  have g2 := h2.frozen 2
  have g3 := h2.frozen 3
  have g4 := h2.frozen 4
  have g5 := h2.frozen 5
  have o2 := h2.cell 2
  have o3 := h2.cell 3
  have o4 := h2.cell 4
  have o5 := h2.cell 5
  simp only [List.getElem?_toArray, List.getElem?_cons_zero, List.getElem?_cons_succ] at o2 o3 o4 o5
  have h5 := (((h2.set 2 (.int .i64 p.bare.ex.kind)).set 3 (.int .i64 p.bare.ex.n)).set 4 (.string p.bare.ex.s)).set 5 (.slice A5 p.bare.ex.kids.length c5)
  simp only [List.setIfInBounds_toArray, List.set_cons_zero, List.set_cons_succ] at h5
  have hz5 : ((((w4.setCell ⟨(w.heap.size + 1 + 1), 2, none⟩ (.int .i64 p.bare.ex.kind)).setCell ⟨(w.heap.size + 1 + 1), 3, none⟩ (.int .i64 p.bare.ex.n)).setCell ⟨(w.heap.size + 1 + 1), 4, none⟩ (.string p.bare.ex.s)).setCell ⟨(w.heap.size + 1 + 1), 5, none⟩ (.slice A5 p.bare.ex.kids.length c5)).heap.size = w4.heap.size := by simp
  have hk5 : ∀ j, j ≠ w.heap.size + 1 + 1 → ((((w4.setCell ⟨(w.heap.size + 1 + 1), 2, none⟩ (.int .i64 p.bare.ex.kind)).setCell ⟨(w.heap.size + 1 + 1), 3, none⟩ (.int .i64 p.bare.ex.n)).setCell ⟨(w.heap.size + 1 + 1), 4, none⟩ (.string p.bare.ex.s)).setCell ⟨(w.heap.size + 1 + 1), 5, none⟩ (.slice A5 p.bare.ex.kids.length c5)).heap[j]? = w4.heap[j]? := fun j hj => by rw [Below.heap_setCell _ _ _ j hj, Below.heap_setCell _ _ _ j hj, Below.heap_setCell _ _ _ j hj, Below.heap_setCell _ _ _ j hj]
  have h15 := h1.stay (hk5 _ (by omega))
  have h05 := h0.stay (hk5 _ (by omega))
  have b0 := h05.cell 0
  simp only [List.getElem?_toArray, List.getElem?_cons_zero, List.getElem?_cons_succ] at b0

  have y0 := h5.cell 0
  have y1 := h5.cell 1
  have y2 := h5.cell 2
  have y3 := h5.cell 3
  have y4 := h5.cell 4
  have y5 := h5.cell 5
  have y6 := h5.cell 6
  have y7 := h5.cell 7
  have y8 := h5.cell 8
  have y9 := h5.cell 9
  simp only [List.getElem?_toArray, List.getElem?_cons_zero, List.getElem?_cons_succ] at y0 y1 y2 y3 y4 y5 y6 y7 y8 y9
  have x0 := h15.cell 0
  have x1 := h15.cell 1
  have x2 := h15.cell 2
  have x3 := h15.cell 3
  have x4 := h15.cell 4
  have x5 := h15.cell 5
  have x6 := h15.cell 6
  have x7 := h15.cell 7
  have x8 := h15.cell 8
  have x9 := h15.cell 9
  simp only [List.getElem?_toArray, List.getElem?_cons_zero, List.getElem?_cons_succ] at x0 x1 x2 x3 x4 x5 x6 x7 x8 x9
  have f0 := h15.frozen 0
  have f1 := h15.frozen 1
  have f2 := h15.frozen 2
  have f3 := h15.frozen 3
  have f4 := h15.frozen 4
  have f5 := h15.frozen 5
  have f6 := h15.frozen 6
  have f7 := h15.frozen 7
  have f8 := h15.frozen 8
  have f9 := h15.frozen 9
  have H15 := Lib.hid h15
  have HKK := Lib.hid hk5
  have HZ5 := Lib.hid hz5
  clear h0 h1 h2 h5 h15 h05 hk5 hz5
  go_wp2_with fail
  obtain ⟨wn, hwn⟩ : ∃ wn, wn = ((((((((((((((w4.setCell ⟨(w.heap.size + 1 + 1), 2, none⟩ (.int .i64 p.bare.ex.kind)).setCell ⟨(w.heap.size + 1 + 1), 3, none⟩ (.int .i64 p.bare.ex.n)).setCell ⟨(w.heap.size + 1 + 1), 4, none⟩ (.string p.bare.ex.s)).setCell ⟨(w.heap.size + 1 + 1), 5, none⟩ (.slice A5 p.bare.ex.kids.length c5)).setCell ⟨(w.heap.size + 1), 0, none⟩ (.int .i64 k)).setCell ⟨(w.heap.size + 1), 1, none⟩ (.string n)).setCell ⟨(w.heap.size + 1), 2, none⟩ (.int .i64 p.bare.ex.kind)).setCell ⟨(w.heap.size + 1), 3, none⟩ (.int .i64 p.bare.ex.n)).setCell ⟨(w.heap.size + 1), 4, none⟩ (.string p.bare.ex.s)).setCell ⟨(w.heap.size + 1), 5, none⟩ (.slice A5 p.bare.ex.kids.length c5)).setCell ⟨(w.heap.size + 1), 6, none⟩ (.int .i64 0)).setCell ⟨(w.heap.size + 1), 7, none⟩ (.int .i64 0)).setCell ⟨(w.heap.size + 1), 8, none⟩ (.string { data := #[] })).setCell ⟨(w.heap.size + 1), 9, none⟩ (.slice none 0 0)) := ⟨_, rfl⟩
  have hwa : wn = setAllQ (((((w4.setCell ⟨(w.heap.size + 1 + 1), 2, none⟩ (.int .i64 p.bare.ex.kind)).setCell ⟨(w.heap.size + 1 + 1), 3, none⟩ (.int .i64 p.bare.ex.n)).setCell ⟨(w.heap.size + 1 + 1), 4, none⟩ (.string p.bare.ex.s)).setCell ⟨(w.heap.size + 1 + 1), 5, none⟩ (.slice A5 p.bare.ex.kids.length c5))) (w.heap.size + 1) 0 [.int .i64 k, .string n, .int .i64 p.bare.ex.kind, .int .i64 p.bare.ex.n, .string p.bare.ex.s, .slice A5 p.bare.ex.kids.length c5, .int .i64 0, .int .i64 0, .string { data := #[] }, .slice none 0 0] := by rw [hwn]; rfl
  rw [← hwn]
  clear hwn
  have hBn := setAllQ_blk [.int .i64 k, .string n, .int .i64 p.bare.ex.kind, .int .i64 p.bare.ex.n, .string p.bare.ex.s, .slice A5 p.bare.ex.kids.length c5, .int .i64 0, .int .i64 0, .string { data := #[] }, .slice none 0 0] 0 _ (((((w4.setCell ⟨(w.heap.size + 1 + 1), 2, none⟩ (.int .i64 p.bare.ex.kind)).setCell ⟨(w.heap.size + 1 + 1), 3, none⟩ (.int .i64 p.bare.ex.n)).setCell ⟨(w.heap.size + 1 + 1), 4, none⟩ (.string p.bare.ex.s)).setCell ⟨(w.heap.size + 1 + 1), 5, none⟩ (.slice A5 p.bare.ex.kids.length c5))) H15.out rfl
  rw [← hwa] at hBn
  have hsame : ∀ j, j ≠ w.heap.size + 1 → wn.heap[j]? = (((((w4.setCell ⟨(w.heap.size + 1 + 1), 2, none⟩ (.int .i64 p.bare.ex.kind)).setCell ⟨(w.heap.size + 1 + 1), 3, none⟩ (.int .i64 p.bare.ex.n)).setCell ⟨(w.heap.size + 1 + 1), 4, none⟩ (.string p.bare.ex.s)).setCell ⟨(w.heap.size + 1 + 1), 5, none⟩ (.slice A5 p.bare.ex.kids.length c5))).heap[j]? := fun j hj => by rw [hwa]; exact setAllQ_other _ _ _ _ hj
  have hzn : wn.heap.size = (((((w4.setCell ⟨(w.heap.size + 1 + 1), 2, none⟩ (.int .i64 p.bare.ex.kind)).setCell ⟨(w.heap.size + 1 + 1), 3, none⟩ (.int .i64 p.bare.ex.n)).setCell ⟨(w.heap.size + 1 + 1), 4, none⟩ (.string p.bare.ex.s)).setCell ⟨(w.heap.size + 1 + 1), 5, none⟩ (.slice A5 p.bare.ex.kids.length c5))).heap.size := by rw [hwa]; exact setAllQ_size _ _ _ _
  have hon := setAllQ_os (w.heap.size + 1) [.int .i64 k, .string n, .int .i64 p.bare.ex.kind, .int .i64 p.bare.ex.n, .string p.bare.ex.s, .slice A5 p.bare.ex.kids.length c5, .int .i64 0, .int .i64 0, .string { data := #[] }, .slice none 0 0] 0 (((((w4.setCell ⟨(w.heap.size + 1 + 1), 2, none⟩ (.int .i64 p.bare.ex.kind)).setCell ⟨(w.heap.size + 1 + 1), 3, none⟩ (.int .i64 p.bare.ex.n)).setCell ⟨(w.heap.size + 1 + 1), 4, none⟩ (.string p.bare.ex.s)).setCell ⟨(w.heap.size + 1 + 1), 5, none⟩ (.slice A5 p.bare.ex.kids.length c5)))
  rw [← hwa] at hon
  simp only [List.take_zero, List.nil_append] at hBn
  have r0 := hBn.cell 0
  have r1 := hBn.cell 1
  have r2 := hBn.cell 2
  have r3 := hBn.cell 3
  have r4 := hBn.cell 4
  have r5 := hBn.cell 5
  have r6 := hBn.cell 6
  have r7 := hBn.cell 7
  have r8 := hBn.cell 8
  have r9 := hBn.cell 9
  simp only [List.getElem?_toArray, List.getElem?_cons_zero, List.getElem?_cons_succ] at r0 r1 r2 r3 r4 r5 r6 r7 r8 r9
  refine bodyPost_ret (v := .agg #[.int .i64 k, .string n, .int .i64 p.bare.ex.kind, .int .i64 p.bare.ex.n, .string p.bare.ex.s, .slice A5 p.bare.ex.kids.length c5, .int .i64 0, .int .i64 0, .string { data := #[] }, .slice none 0 0]) (by simp [results, Tryz.results74, go_sem, r0, r1, r2, r3, r4, r5, r6, r7, r8, r9]) rfl ?_
  have hK : ∀ b, W3.heap.size ≤ b → wn.heap[b]? = w4.heap[b]? := fun b hb => (hsame b (by omega)).trans (HKK.out b (by omega))
  refine ⟨A5, none, c5, 0, rfl, hc5, Nat.le_refl _, HK5.out.keep (fun b h => ⟨by omega, by rw [hzn, HZ5.out]; exact h.2⟩) (fun b h => hK b h.1), .nil, ?_⟩
  refine ⟨hon.1.trans (HB4.out.os.trans HBW.out.os), hon.2.1.trans (HB4.out.tape.trans HBW.out.tape), hon.2.2.trans (HB4.out.output.trans HBW.out.output), by rw [hzn, HZ5.out]; omega, fun j hj => ?_⟩
  exact (hsame j (by omega)).trans ((HKK.out j (by omega)).trans ((HB4.out.block j (by omega)).trans (HBW.out.block j hj)))
set_option linter.unusedVariables false in
set_option linter.unusedSimpArgs false in
set_option maxRecDepth 100000 in
set_option maxHeartbeats 8000000 in
theorem l7Of_two (n t : ByteArray) (p q : Pt) (A1 A2 : Option Addr) (c1 c2 B : Nat) (w : World) (hA : KidsAt w B A1 p.ex.kids) (hA2 : KidsAt w B A2 q.ex.kids) (hc : p.ex.kids.length ≤ c1) (hc2 : q.ex.kids.length ≤ c2) (hB : B ≤ w.heap.size) :
    Calls Tryz.prog 74 #[stV ⟨3, n, t, p.ex, q.ex⟩ A1 A2 c1 c2] w (GivesBare ⟨3, n, p.bare.ex, q.bare.ex⟩ w) := by
  obtain ⟨W3, hW3⟩ : ∃ W3, W3 = ((w.alloc (.cells #[.int .i64 3, .string n, .string t, .int .i64 p.ex.kind, .int .i64 p.ex.n, .string p.ex.s, .slice A1 p.ex.kids.length c1, .int .i64 q.ex.kind, .int .i64 q.ex.n, .string q.ex.s, .slice A2 q.ex.kids.length c2] 27)).alloc (.cells #[.int .i64 0, .string { data := #[] }, .int .i64 0, .int .i64 0, .string { data := #[] }, .slice none 0 0, .int .i64 0, .int .i64 0, .string { data := #[] }, .slice none 0 0] 33)).alloc (.cells #[.int .i64 3, .string n, .int .i64 0, .int .i64 0, .string { data := #[] }, .slice none 0 0, .int .i64 0, .int .i64 0, .string { data := #[] }, .slice none 0 0] 33) := ⟨_, rfl⟩
  obtain ⟨hz3, hB0, hB1, hB2, hbw⟩ := three_boxes w W3 #[.int .i64 3, .string n, .string t, .int .i64 p.ex.kind, .int .i64 p.ex.n, .string p.ex.s, .slice A1 p.ex.kids.length c1, .int .i64 q.ex.kind, .int .i64 q.ex.n, .string q.ex.s, .slice A2 q.ex.kids.length c2] #[.int .i64 0, .string { data := #[] }, .int .i64 0, .int .i64 0, .string { data := #[] }, .slice none 0 0, .int .i64 0, .int .i64 0, .string { data := #[] }, .slice none 0 0] #[.int .i64 3, .string n, .int .i64 0, .int .i64 0, .string { data := #[] }, .slice none 0 0, .int .i64 0, .int .i64 0, .string { data := #[] }, .slice none 0 0] hW3
  have HC := Lib.hid (l4Bare_any p A1 c1 B W3 (hA.keep (hbw.mono hB)) hc (by omega))
  have HA2 := Lib.hid (hA2.keep (hbw.mono hB))
  have H0 := Lib.hid hB0
  have H1 := Lib.hid hB1
  have H2 := Lib.hid hB2
  have HBW := Lib.hid hbw
  clear hB0 hB1 hB2 hbw hA hA2
  unfold stV
  go_enter Tryz.func74, Tryz.ntmps74
  go_wp2_with fail
  rw [← hW3]
  clear hW3
  refine HC.out.mono ?_
  rintro r w4 ⟨A5, c5, rfl, hc5, hK5, hb4⟩
  have hz4 := hb4.size
  have h0 := H0.out.stay (hb4.block _ (by omega))
  have h1 := H1.out.stay (hb4.block _ (by omega))
  have h2 := H2.out.stay (hb4.block _ (by omega))
  have HK5 := Lib.hid hK5
  have HB4 := Lib.hid hb4
  clear HC hK5 hb4 H0 H1 H2
  have g2 := h2.frozen 2
  have g3 := h2.frozen 3
  have g4 := h2.frozen 4
  have g5 := h2.frozen 5
  have o2 := h2.cell 2
  have o3 := h2.cell 3
  have o4 := h2.cell 4
  have o5 := h2.cell 5
  simp only [List.getElem?_toArray, List.getElem?_cons_zero, List.getElem?_cons_succ] at o2 o3 o4 o5
  have h5 := (((h2.set 2 (.int .i64 p.bare.ex.kind)).set 3 (.int .i64 p.bare.ex.n)).set 4 (.string p.bare.ex.s)).set 5 (.slice A5 p.bare.ex.kids.length c5)
  simp only [List.setIfInBounds_toArray, List.set_cons_zero, List.set_cons_succ] at h5
  have hz5 : ((((w4.setCell ⟨(w.heap.size + 1 + 1), 2, none⟩ (.int .i64 p.bare.ex.kind)).setCell ⟨(w.heap.size + 1 + 1), 3, none⟩ (.int .i64 p.bare.ex.n)).setCell ⟨(w.heap.size + 1 + 1), 4, none⟩ (.string p.bare.ex.s)).setCell ⟨(w.heap.size + 1 + 1), 5, none⟩ (.slice A5 p.bare.ex.kids.length c5)).heap.size = w4.heap.size := by simp
  have hk5 : ∀ j, j ≠ w.heap.size + 1 + 1 → ((((w4.setCell ⟨(w.heap.size + 1 + 1), 2, none⟩ (.int .i64 p.bare.ex.kind)).setCell ⟨(w.heap.size + 1 + 1), 3, none⟩ (.int .i64 p.bare.ex.n)).setCell ⟨(w.heap.size + 1 + 1), 4, none⟩ (.string p.bare.ex.s)).setCell ⟨(w.heap.size + 1 + 1), 5, none⟩ (.slice A5 p.bare.ex.kids.length c5)).heap[j]? = w4.heap[j]? := fun j hj => by rw [Below.heap_setCell _ _ _ j hj, Below.heap_setCell _ _ _ j hj, Below.heap_setCell _ _ _ j hj, Below.heap_setCell _ _ _ j hj]
  have ho5 : ((((w4.setCell ⟨(w.heap.size + 1 + 1), 2, none⟩ (.int .i64 p.bare.ex.kind)).setCell ⟨(w.heap.size + 1 + 1), 3, none⟩ (.int .i64 p.bare.ex.n)).setCell ⟨(w.heap.size + 1 + 1), 4, none⟩ (.string p.bare.ex.s)).setCell ⟨(w.heap.size + 1 + 1), 5, none⟩ (.slice A5 p.bare.ex.kids.length c5)).os = w4.os ∧ ((((w4.setCell ⟨(w.heap.size + 1 + 1), 2, none⟩ (.int .i64 p.bare.ex.kind)).setCell ⟨(w.heap.size + 1 + 1), 3, none⟩ (.int .i64 p.bare.ex.n)).setCell ⟨(w.heap.size + 1 + 1), 4, none⟩ (.string p.bare.ex.s)).setCell ⟨(w.heap.size + 1 + 1), 5, none⟩ (.slice A5 p.bare.ex.kids.length c5)).tape = w4.tape ∧ ((((w4.setCell ⟨(w.heap.size + 1 + 1), 2, none⟩ (.int .i64 p.bare.ex.kind)).setCell ⟨(w.heap.size + 1 + 1), 3, none⟩ (.int .i64 p.bare.ex.n)).setCell ⟨(w.heap.size + 1 + 1), 4, none⟩ (.string p.bare.ex.s)).setCell ⟨(w.heap.size + 1 + 1), 5, none⟩ (.slice A5 p.bare.ex.kids.length c5)).output = w4.output := ⟨rfl, rfl, rfl⟩
  have h15 := h1.stay (hk5 _ (by omega))
  have h05 := h0.stay (hk5 _ (by omega))
  have b0 := h05.cell 0
  have b7 := h05.cell 7
  have b8 := h05.cell 8
  have b9 := h05.cell 9
  have b10 := h05.cell 10
  simp only [List.getElem?_toArray, List.getElem?_cons_zero, List.getElem?_cons_succ] at b0 b7 b8 b9 b10
  have HC2 := Lib.hid (l4Bare_any q A2 c2 B ((((w4.setCell ⟨(w.heap.size + 1 + 1), 2, none⟩ (.int .i64 p.bare.ex.kind)).setCell ⟨(w.heap.size + 1 + 1), 3, none⟩ (.int .i64 p.bare.ex.n)).setCell ⟨(w.heap.size + 1 + 1), 4, none⟩ (.string p.bare.ex.s)).setCell ⟨(w.heap.size + 1 + 1), 5, none⟩ (.slice A5 p.bare.ex.kids.length c5)) ((HA2.out.keep (HB4.out.mono (by omega))).keep (below_of (by omega) hz5 hk5 ho5)) hc2 (by omega))
  have HO5 := Lib.hid h05
  have HO15 := Lib.hid h15
  have HO2 := Lib.hid h5
  have HKK := Lib.hid hk5
  have HZ5 := Lib.hid hz5
  have HOS := Lib.hid ho5
  clear h0 h1 h2 h5 h15 h05 hk5 hz5 ho5 HA2
  go_wp2_with fail
  obtain ⟨W5, hW5⟩ : ∃ W5, W5 = ((((w4.setCell ⟨(w.heap.size + 1 + 1), 2, none⟩ (.int .i64 p.bare.ex.kind)).setCell ⟨(w.heap.size + 1 + 1), 3, none⟩ (.int .i64 p.bare.ex.n)).setCell ⟨(w.heap.size + 1 + 1), 4, none⟩ (.string p.bare.ex.s)).setCell ⟨(w.heap.size + 1 + 1), 5, none⟩ (.slice A5 p.bare.ex.kids.length c5)) := ⟨_, rfl⟩
  rw [← hW5] at HC2 HO5 HO15 HO2 HKK HZ5 HOS ⊢
  clear hW5 b0 b7 b8 b9 b10 o2 o3 o4 o5 g2 g3 g4 g5
  refine HC2.out.mono ?_
  rintro r w6 ⟨A6, c6, rfl, hc6, hK6, hb6⟩
  have hz6 := hb6.size
  have hz5 := HZ5.out
  have h0 := HO5.out.stay (hb6.block _ (by omega))
  have h1 := HO15.out.stay (hb6.block _ (by omega))
  have h2 := HO2.out.stay (hb6.block _ (by omega))
  have HK6 := Lib.hid hK6
  have HB6 := Lib.hid hb6
  clear HC2 hK6 hb6 HO5 HO15 HO2
  have g6 := h2.frozen 6
  have g7 := h2.frozen 7
  have g8 := h2.frozen 8
  have g9 := h2.frozen 9
  have o6 := h2.cell 6
  have o7 := h2.cell 7
  have o8 := h2.cell 8
  have o9 := h2.cell 9
  simp only [List.getElem?_toArray, List.getElem?_cons_zero, List.getElem?_cons_succ] at o6 o7 o8 o9
  have h7 := (((h2.set 6 (.int .i64 q.bare.ex.kind)).set 7 (.int .i64 q.bare.ex.n)).set 8 (.string q.bare.ex.s)).set 9 (.slice A6 q.bare.ex.kids.length c6)
  simp only [List.setIfInBounds_toArray, List.set_cons_zero, List.set_cons_succ] at h7
  have hz7 : ((((w6.setCell ⟨(w.heap.size + 1 + 1), 6, none⟩ (.int .i64 q.bare.ex.kind)).setCell ⟨(w.heap.size + 1 + 1), 7, none⟩ (.int .i64 q.bare.ex.n)).setCell ⟨(w.heap.size + 1 + 1), 8, none⟩ (.string q.bare.ex.s)).setCell ⟨(w.heap.size + 1 + 1), 9, none⟩ (.slice A6 q.bare.ex.kids.length c6)).heap.size = w6.heap.size := by simp
  have hk7 : ∀ j, j ≠ w.heap.size + 1 + 1 → ((((w6.setCell ⟨(w.heap.size + 1 + 1), 6, none⟩ (.int .i64 q.bare.ex.kind)).setCell ⟨(w.heap.size + 1 + 1), 7, none⟩ (.int .i64 q.bare.ex.n)).setCell ⟨(w.heap.size + 1 + 1), 8, none⟩ (.string q.bare.ex.s)).setCell ⟨(w.heap.size + 1 + 1), 9, none⟩ (.slice A6 q.bare.ex.kids.length c6)).heap[j]? = w6.heap[j]? := fun j hj => by rw [Below.heap_setCell _ _ _ j hj, Below.heap_setCell _ _ _ j hj, Below.heap_setCell _ _ _ j hj, Below.heap_setCell _ _ _ j hj]
  have h17 := h1.stay (hk7 _ (by omega))
  have y0 := h7.cell 0
  have y1 := h7.cell 1
  have y2 := h7.cell 2
  have y3 := h7.cell 3
  have y4 := h7.cell 4
  have y5 := h7.cell 5
  have y6 := h7.cell 6
  have y7 := h7.cell 7
  have y8 := h7.cell 8
  have y9 := h7.cell 9
  simp only [List.getElem?_toArray, List.getElem?_cons_zero, List.getElem?_cons_succ] at y0 y1 y2 y3 y4 y5 y6 y7 y8 y9
  have x0 := h17.cell 0
  have x1 := h17.cell 1
  have x2 := h17.cell 2
  have x3 := h17.cell 3
  have x4 := h17.cell 4
  have x5 := h17.cell 5
  have x6 := h17.cell 6
  have x7 := h17.cell 7
  have x8 := h17.cell 8
  have x9 := h17.cell 9
  simp only [List.getElem?_toArray, List.getElem?_cons_zero, List.getElem?_cons_succ] at x0 x1 x2 x3 x4 x5 x6 x7 x8 x9
  have f0 := h17.frozen 0
  have f1 := h17.frozen 1
  have f2 := h17.frozen 2
  have f3 := h17.frozen 3
  have f4 := h17.frozen 4
  have f5 := h17.frozen 5
  have f6 := h17.frozen 6
  have f7 := h17.frozen 7
  have f8 := h17.frozen 8
  have f9 := h17.frozen 9
  have H17 := Lib.hid h17
  have HK7 := Lib.hid hk7
  have HZ7 := Lib.hid hz7
  clear h0 h1 h2 h7 h17 hk7 hz7
  go_wp2_with fail
  obtain ⟨wn, hwn⟩ : ∃ wn, wn = ((((((((((((((w6.setCell ⟨(w.heap.size + 1 + 1), 6, none⟩ (.int .i64 q.bare.ex.kind)).setCell ⟨(w.heap.size + 1 + 1), 7, none⟩ (.int .i64 q.bare.ex.n)).setCell ⟨(w.heap.size + 1 + 1), 8, none⟩ (.string q.bare.ex.s)).setCell ⟨(w.heap.size + 1 + 1), 9, none⟩ (.slice A6 q.bare.ex.kids.length c6)).setCell ⟨(w.heap.size + 1), 0, none⟩ (.int .i64 3)).setCell ⟨(w.heap.size + 1), 1, none⟩ (.string n)).setCell ⟨(w.heap.size + 1), 2, none⟩ (.int .i64 p.bare.ex.kind)).setCell ⟨(w.heap.size + 1), 3, none⟩ (.int .i64 p.bare.ex.n)).setCell ⟨(w.heap.size + 1), 4, none⟩ (.string p.bare.ex.s)).setCell ⟨(w.heap.size + 1), 5, none⟩ (.slice A5 p.bare.ex.kids.length c5)).setCell ⟨(w.heap.size + 1), 6, none⟩ (.int .i64 q.bare.ex.kind)).setCell ⟨(w.heap.size + 1), 7, none⟩ (.int .i64 q.bare.ex.n)).setCell ⟨(w.heap.size + 1), 8, none⟩ (.string q.bare.ex.s)).setCell ⟨(w.heap.size + 1), 9, none⟩ (.slice A6 q.bare.ex.kids.length c6)) := ⟨_, rfl⟩
  have hwa : wn = setAllQ (((((w6.setCell ⟨(w.heap.size + 1 + 1), 6, none⟩ (.int .i64 q.bare.ex.kind)).setCell ⟨(w.heap.size + 1 + 1), 7, none⟩ (.int .i64 q.bare.ex.n)).setCell ⟨(w.heap.size + 1 + 1), 8, none⟩ (.string q.bare.ex.s)).setCell ⟨(w.heap.size + 1 + 1), 9, none⟩ (.slice A6 q.bare.ex.kids.length c6))) (w.heap.size + 1) 0 [.int .i64 3, .string n, .int .i64 p.bare.ex.kind, .int .i64 p.bare.ex.n, .string p.bare.ex.s, .slice A5 p.bare.ex.kids.length c5, .int .i64 q.bare.ex.kind, .int .i64 q.bare.ex.n, .string q.bare.ex.s, .slice A6 q.bare.ex.kids.length c6] := by rw [hwn]; rfl
  rw [← hwn]
  clear hwn
  have hBn := setAllQ_blk [.int .i64 3, .string n, .int .i64 p.bare.ex.kind, .int .i64 p.bare.ex.n, .string p.bare.ex.s, .slice A5 p.bare.ex.kids.length c5, .int .i64 q.bare.ex.kind, .int .i64 q.bare.ex.n, .string q.bare.ex.s, .slice A6 q.bare.ex.kids.length c6] 0 _ (((((w6.setCell ⟨(w.heap.size + 1 + 1), 6, none⟩ (.int .i64 q.bare.ex.kind)).setCell ⟨(w.heap.size + 1 + 1), 7, none⟩ (.int .i64 q.bare.ex.n)).setCell ⟨(w.heap.size + 1 + 1), 8, none⟩ (.string q.bare.ex.s)).setCell ⟨(w.heap.size + 1 + 1), 9, none⟩ (.slice A6 q.bare.ex.kids.length c6))) H17.out rfl
  rw [← hwa] at hBn
  have hsame : ∀ j, j ≠ w.heap.size + 1 → wn.heap[j]? = (((((w6.setCell ⟨(w.heap.size + 1 + 1), 6, none⟩ (.int .i64 q.bare.ex.kind)).setCell ⟨(w.heap.size + 1 + 1), 7, none⟩ (.int .i64 q.bare.ex.n)).setCell ⟨(w.heap.size + 1 + 1), 8, none⟩ (.string q.bare.ex.s)).setCell ⟨(w.heap.size + 1 + 1), 9, none⟩ (.slice A6 q.bare.ex.kids.length c6))).heap[j]? := fun j hj => by rw [hwa]; exact setAllQ_other _ _ _ _ hj
  have hzn : wn.heap.size = (((((w6.setCell ⟨(w.heap.size + 1 + 1), 6, none⟩ (.int .i64 q.bare.ex.kind)).setCell ⟨(w.heap.size + 1 + 1), 7, none⟩ (.int .i64 q.bare.ex.n)).setCell ⟨(w.heap.size + 1 + 1), 8, none⟩ (.string q.bare.ex.s)).setCell ⟨(w.heap.size + 1 + 1), 9, none⟩ (.slice A6 q.bare.ex.kids.length c6))).heap.size := by rw [hwa]; exact setAllQ_size _ _ _ _
  have hon := setAllQ_os (w.heap.size + 1) [.int .i64 3, .string n, .int .i64 p.bare.ex.kind, .int .i64 p.bare.ex.n, .string p.bare.ex.s, .slice A5 p.bare.ex.kids.length c5, .int .i64 q.bare.ex.kind, .int .i64 q.bare.ex.n, .string q.bare.ex.s, .slice A6 q.bare.ex.kids.length c6] 0 (((((w6.setCell ⟨(w.heap.size + 1 + 1), 6, none⟩ (.int .i64 q.bare.ex.kind)).setCell ⟨(w.heap.size + 1 + 1), 7, none⟩ (.int .i64 q.bare.ex.n)).setCell ⟨(w.heap.size + 1 + 1), 8, none⟩ (.string q.bare.ex.s)).setCell ⟨(w.heap.size + 1 + 1), 9, none⟩ (.slice A6 q.bare.ex.kids.length c6)))
  rw [← hwa] at hon
  simp only [List.take_zero, List.nil_append] at hBn
  have r0 := hBn.cell 0
  have r1 := hBn.cell 1
  have r2 := hBn.cell 2
  have r3 := hBn.cell 3
  have r4 := hBn.cell 4
  have r5 := hBn.cell 5
  have r6 := hBn.cell 6
  have r7 := hBn.cell 7
  have r8 := hBn.cell 8
  have r9 := hBn.cell 9
  simp only [List.getElem?_toArray, List.getElem?_cons_zero, List.getElem?_cons_succ] at r0 r1 r2 r3 r4 r5 r6 r7 r8 r9
  refine bodyPost_ret (v := .agg #[.int .i64 3, .string n, .int .i64 p.bare.ex.kind, .int .i64 p.bare.ex.n, .string p.bare.ex.s, .slice A5 p.bare.ex.kids.length c5, .int .i64 q.bare.ex.kind, .int .i64 q.bare.ex.n, .string q.bare.ex.s, .slice A6 q.bare.ex.kids.length c6]) (by simp [results, Tryz.results74, go_sem, r0, r1, r2, r3, r4, r5, r6, r7, r8, r9]) rfl ?_
  have hK : ∀ b, w.heap.size + 1 + 1 + 1 ≤ b → wn.heap[b]? = w6.heap[b]? := fun b hb => (hsame b (by omega)).trans (HK7.out b (by omega))
  have hK2 : ∀ b, w.heap.size + 1 + 1 + 1 ≤ b → b < w4.heap.size → wn.heap[b]? = w4.heap[b]? := fun b hb hb2 => (hK b hb).trans ((HB6.out.block b (by omega)).trans (HKK.out b (by omega)))
  refine ⟨A5, A6, c5, c6, rfl, hc5, hc6, HK5.out.keep (fun b h => ⟨by omega, by rw [hzn, HZ7.out]; omega⟩) (fun b h => hK2 b (by omega) h.2), HK6.out.keep (fun b h => ⟨by omega, by rw [hzn, HZ7.out]; exact h.2⟩) (fun b h => hK b (by omega)), ?_⟩
  refine ⟨hon.1.trans (HB6.out.os.trans (HOS.out.1.trans (HB4.out.os.trans HBW.out.os))), hon.2.1.trans (HB6.out.tape.trans (HOS.out.2.1.trans (HB4.out.tape.trans HBW.out.tape))), hon.2.2.trans (HB6.out.output.trans (HOS.out.2.2.trans (HB4.out.output.trans HBW.out.output))), by rw [hzn, HZ7.out]; omega, fun j hj => ?_⟩
  exact (hsame j (by omega)).trans ((HK7.out j (by omega)).trans ((HB6.out.block j (by omega)).trans ((HKK.out j (by omega)).trans ((HB4.out.block j (by omega)).trans (HBW.out.block j hj)))))
end Go.Proofs.YtkllhnhinealfaaGreatDoor

namespace Go.Proofs.YtkllhnhinealfaaGreatDoor
open Go.RowKit

theorem bare_wt' (p : Pt) : p.bare.ex.wt ≤ p.ex.wt := by
  induction p with
  | num n => exact Nat.le_refl _
  | name s => exact Nat.le_refl _
  | two s a b ia ib => simp only [Pt.bare, Pt.ex, Ex.wt, Ex.wts]; omega
  | «as» s a ia => simp only [Pt.bare, Pt.ex, Ex.wt, Ex.wts]; omega
theorem KidsS.of {w : World} {S : Nat → Prop} {g off : Nat} {ks : List Ex} (hg : S g) (hb : ∃ cur, Blk w g cur) (h : ∀ j (hj : j < ks.length), ∃ D c, KidC w g (off + j * 4) ks[j] D c ∧ KidsS w S D ks[j].kids) : KidsS w S (some ⟨g, off, none⟩) ks := by
  have h' : ∀ j, ∃ D c, ∀ (hj : j < ks.length), KidC w g (off + j * 4) ks[j] D c ∧ KidsS w S D ks[j].kids := by
    intro j
    by_cases hj : j < ks.length
    · obtain ⟨D, c, hx⟩ := h j hj
      exact ⟨D, c, fun _ => hx⟩
    · exact ⟨none, 0, fun hj' => absurd hj' hj⟩
  have h2 : ∃ D : Nat → Option Addr, ∀ j, ∃ c, ∀ (hj : j < ks.length), KidC w g (off + j * 4) ks[j] (D j) c ∧ KidsS w S (D j) ks[j].kids := ⟨fun j => (h' j).choose, fun j => (h' j).choose_spec⟩
  obtain ⟨D, hD⟩ := h2
  have h3 : ∃ c : Nat → Nat, ∀ j (hj : j < ks.length), KidC w g (off + j * 4) ks[j] (D j) (c j) ∧ KidsS w S (D j) ks[j].kids := ⟨fun j => (hD j).choose, fun j => (hD j).choose_spec⟩
  obtain ⟨c, hc⟩ := h3
  exact .mk D c hg hb (fun j hj => (hc j hj).1.c0) (fun j hj => (hc j hj).1.c1) (fun j hj => (hc j hj).1.c2) (fun j hj => (hc j hj).1.c3) (fun j hj => (hc j hj).1.hc) (fun j hj => (hc j hj).2)
theorem own_kidsS {w : World} {S : Nat → Prop} (e : Ex) : ∀ lo hi A, OwnE w e lo hi A → (∀ b, lo ≤ b → b < hi → S b) → KidsS w S A e.kids := by
  induction e using Ex.ind with
  | h k n s ks ih =>
    intro lo hi A h hS
    rw [OwnE] at h
    show KidsS w S A ks
    rcases h with h | ⟨g, lo', hi', e, h1, h2, h3, h4, h5, h6, h7⟩
    · rw [h.1]; exact .nil
    · subst e
      have each : ∀ (es : List Ex) (off lo0 : Nat), lo' ≤ lo0 → (∀ e ∈ es, e ∈ ks) → OwnL w es g off lo0 hi' → ∀ j (hj : j < es.length), ∃ D c, KidC w g (off + j * 4) es[j] D c ∧ KidsS w S D es[j].kids := by
        intro es
        induction es with
        | nil => intro off lo0 _ _ _ j hj; simp at hj
        | cons x xs ih2 =>
          intro off lo0 hlo hm hl j hj
          rw [OwnL] at hl
          obtain ⟨D, c, mid, q1, q2, q3⟩ := hl
          have l3 := ownL_le w xs _ _ _ _ q3
          have l2 := own_le w x _ _ _ q2
          cases j with
          | zero => exact ⟨D, c, by simpa using q1, ih x (hm x (by simp)) lo0 mid D q2 (fun b b1 b2 => hS b (by omega) (by omega))⟩
          | succ j =>
            obtain ⟨D', c', hx⟩ := ih2 (off + 4) mid (by omega) (fun e he => hm e (by simp [he])) q3 j (by simpa using hj)
            rw [show off + 4 + j * 4 = off + (j + 1) * 4 by omega] at hx
            exact ⟨D', c', hx⟩
      have := each ks 0 lo' (Nat.le_refl _) (fun _ h => h) h7
      exact KidsS.of (hS g h1 h2) h6 this
theorem l7Of_any (s : St) (A1 A2 : Option Addr) (c1 c2 B : Nat) (w : World) (h0 : s.kind = 0 ∨ ∃ p : Pt, p.ex = s.e) (h3 : s.kind = 3 → ∃ q : Pt, q.ex = s.t) (hA : KidsAt w B A1 s.e.kids) (hA2 : KidsAt w B A2 s.t.kids) (hc : s.e.kids.length ≤ c1) (hc2 : s.t.kids.length ≤ c2) (hB : B ≤ w.heap.size) :
    Calls Tryz.prog 74 #[stV s A1 A2 c1 c2] w (fun r w' => ∃ b : Br, b.wt ≤ s.wt ∧ GivesBare b w r w') := by
  obtain ⟨k, n, t, e, x⟩ := s
  simp only at h0 h3 hA hA2 hc hc2
  have hz : Ex.zero.wt = 0 := rfl
  by_cases hk0 : k = 0
  · subst hk0
    exact (l7Of_zero n t e x A1 A2 c1 c2 w).mono (fun r w' h => ⟨_, by simp only [Br.wt, St.wt]; omega, h⟩)
  · obtain ⟨p, rfl⟩ := h0.resolve_left hk0
    have hp := bare_wt' p
    by_cases hk3 : k = 3
    · subst hk3
      obtain ⟨q, rfl⟩ := h3 rfl
      have hq := bare_wt' q
      exact (l7Of_two n t p q A1 A2 c1 c2 B w hA hA2 hc hc2 hB).mono (fun r w' h => ⟨_, by simp only [Br.wt, St.wt]; omega, h⟩)
    · exact (l7Of_one k hk0 hk3 n t p x A1 A2 c1 c2 B w hA hc hB).mono (fun r w' h => ⟨_, by simp only [Br.wt, St.wt]; omega, h⟩)
/-- Kids in memory from this block on, and a block lies beside them. -/
def BOut (lo b : Nat) (W : World) (A : Option Addr) (ks : List Ex) : Prop := KidsS W (fun k => lo ≤ k ∧ k < W.heap.size ∧ k ≠ b) A ks
theorem BOut.keep {lo b : Nat} {W W' : World} {A : Option Addr} {ks : List Ex} (h : BOut lo b W A ks) (hs : W.heap.size ≤ W'.heap.size) (hk : ∀ k, lo ≤ k → k < W.heap.size → k ≠ b → W'.heap[k]? = W.heap[k]?) : BOut lo b W' A ks :=
  KidsS.keep h (fun k q => ⟨q.1, by omega, q.2.2⟩) (fun k q => hk k q.1 q.2.1 q.2.2)
def zerosB : Array Value := #[.int .i64 0, .string { data := #[] }, .int .i64 0, .int .i64 0, .string { data := #[] }, .slice none 0 0, .int .i64 0, .int .i64 0, .string { data := #[] }, .slice none 0 0]
/-- A line was drawn, in memory of its own. -/
def DrewB (k m : Nat) (w : World) (B g : Nat) (A0 : Option Addr) (len cap p : Nat) (r : Ending) (w' : World) : Prop :=
  ∃ (s : Br) (A1 A2 : Option Addr) (c1 c2 : Nat), r = .returned (.agg #[.int .i64 s.kind, .string s.name, .int .i64 s.e.kind, .int .i64 s.e.n, .string s.e.s, .slice A1 s.e.kids.length c1, .int .i64 s.t.kind, .int .i64 s.t.n, .string s.t.s, .slice A2 s.t.kids.length c2]) ∧ s.e.kids.length ≤ c1 ∧ s.t.kids.length ≤ c2 ∧ KidsIn w.heap.size w' A1 s.e.kids ∧ KidsIn w.heap.size w' A2 s.t.kids ∧ s.wt ≤ m ∧ Read w B g A0 len cap p k w'
/-- How things stand while a line is drawn: the result's box is laid, and the line lies in a box of its own. -/
structure SB (w : World) (B g : Nat) (A0 : Option Addr) (len cap q b3 : Nat) (cur : Array Value) (e t : List Ex) (A1 A2 : Option Addr) (W : World) : Prop where
  rd : Rd W B g A0 len cap q
  gr : w.grownBy W (some g)
  ret : BlkQ W w.heap.size #[.int .i64 0, .string { data := #[] }, .int .i64 0, .int .i64 0, .string { data := #[] }, .slice none 0 0, .int .i64 0, .int .i64 0, .string { data := #[] }, .slice none 0 0]
  box : BlkQ W b3 cur
  hb : w.heap.size < b3
  o1 : BOut (w.heap.size + 1) b3 W A1 e
  o2 : BOut (w.heap.size + 1) b3 W A2 t
theorem blkQ_grown {w w' : World} {g b : Nat} {cur : Array Value} (h : BlkQ w b cur) (hg : w.grownBy w' (some g)) (hne : b ≠ g) : BlkQ w' b cur := (hg.block b h.lt (fun e => hne (by injection e))).trans h
theorem SB.grow {w W W' : World} {B g : Nat} {A0 : Option Addr} {len cap q q' b3 : Nat} {cur : Array Value} {e t : List Ex} {A1 A2 : Option Addr} (h : SB w B g A0 len cap q b3 cur e t A1 A2 W) (hgw : g < w.heap.size) (hr : Rd W' B g A0 len cap q') (hg : W.grownBy W' (some g)) : SB w B g A0 len cap q' b3 cur e t A1 A2 W' :=
  ⟨hr, grown_trans h.gr hg, blkQ_grown h.ret hg (by omega), blkQ_grown h.box hg (by have := h.hb; omega), h.hb, h.o1.keep hg.size (fun k q1 q2 _ => hg.block k q2 (fun e => by injection e with e; omega)), h.o2.keep hg.size (fun k q1 q2 _ => hg.block k q2 (fun e => by injection e with e; omega))⟩
theorem SB.set {w W : World} {B g : Nat} {A0 : Option Addr} {len cap q b3 : Nat} {cur : Array Value} {e t : List Ex} {A1 A2 : Option Addr} (h : SB w B g A0 len cap q b3 cur e t A1 A2 W) (hgw : g < w.heap.size) (i : Nat) (v : Value) : SB w B g A0 len cap q b3 (cur.setIfInBounds i v) e t A1 A2 (W.setCell ⟨b3, i, none⟩ v) := by
  have hb := h.hb
  have hsame : ∀ j, j ≠ b3 → (W.setCell ⟨b3, i, none⟩ v).heap[j]? = W.heap[j]? := fun j hj => Below.heap_setCell _ _ _ j hj
  have hz : (W.setCell ⟨b3, i, none⟩ v).heap.size = W.heap.size := by simp
  have hB := h.rd.2.1
  exact ⟨rd_keep h.rd (hsame g (by omega)) (fun k hk => hsame k (by omega)), ⟨h.gr.os, h.gr.tape, h.gr.output, by rw [hz]; exact h.gr.size, fun j hj hne => (hsame j (by omega)).trans (h.gr.block j hj hne)⟩, (hsame _ (by omega)).trans h.ret, h.box.set i v, hb, h.o1.keep (by rw [hz]; exact Nat.le_refl _) (fun k _ _ hk => hsame k hk), h.o2.keep (by rw [hz]; exact Nat.le_refl _) (fun k _ _ hk => hsame k hk)⟩
/-- What was drawn behind all takes the place of what is reckoned first, or second. -/
theorem SB.first {w W W' : World} {B g : Nat} {A0 : Option Addr} {len cap q b3 : Nat} {cur : Array Value} {e t : List Ex} {x : Ex} {A1 A2 A3 : Option Addr} (h : SB w B g A0 len cap q b3 cur e t A1 A2 W') (hb3 : b3 < W.heap.size) (ho : OwnE W' x W.heap.size W'.heap.size A3) : SB w B g A0 len cap q b3 cur x.kids t A3 A2 W' :=
  ⟨h.rd, h.gr, h.ret, h.box, h.hb, own_kidsS x _ _ _ ho (fun b b1 b2 => ⟨by have := h.hb; omega, b2, by omega⟩), h.o2⟩
theorem SB.second {w W W' : World} {B g : Nat} {A0 : Option Addr} {len cap q b3 : Nat} {cur : Array Value} {e t : List Ex} {x : Ex} {A1 A2 A3 : Option Addr} (h : SB w B g A0 len cap q b3 cur e t A1 A2 W') (hb3 : b3 < W.heap.size) (ho : OwnE W' x W.heap.size W'.heap.size A3) : SB w B g A0 len cap q b3 cur e x.kids A1 A3 W' :=
  ⟨h.rd, h.gr, h.ret, h.box, h.hb, h.o1, own_kidsS x _ _ _ ho (fun b b1 b2 => ⟨by have := h.hb; omega, b2, by omega⟩)⟩
theorem SB.finish {w W wn : World} {B g : Nat} {A0 : Option Addr} {len cap p q b3 K : Nat} {cur : Array Value} {e t : List Ex} {A1 A2 : Option Addr} {vs : List Value} (h : SB w B g A0 len cap q b3 cur e t A1 A2 W) (hl : vs.length = 10) (hwn : wn = setAllQ W w.heap.size 0 vs) (hgw : g < w.heap.size) (hq1 : p ≤ q) (hq2 : q ≤ p + K) :
    BlkQ wn w.heap.size vs.toArray ∧ Read w B g A0 len cap p K wn ∧ KidsIn w.heap.size wn A1 e ∧ KidsIn w.heap.size wn A2 t := by
  have hb := h.hb
  have hsame : ∀ j, j ≠ w.heap.size → wn.heap[j]? = W.heap[j]? := fun j hj => by rw [hwn]; exact setAllQ_other _ _ _ _ hj
  have hz : wn.heap.size = W.heap.size := by rw [hwn]; exact setAllQ_size _ _ _ _
  have ho := setAllQ_os w.heap.size vs 0 W
  rw [← hwn] at ho
  have hB := h.rd.2.1
  refine ⟨?_, ⟨q, hq1, hq2, rd_keep h.rd (hsame g (by omega)) (fun k hk => hsame k (by omega)), ⟨ho.1.trans h.gr.os, ho.2.1.trans h.gr.tape, ho.2.2.trans h.gr.output, by rw [hz]; exact h.gr.size, fun j hj hne => (hsame j (by omega)).trans (h.gr.block j hj hne)⟩⟩, ?_, ?_⟩
  · have := setAllQ_blk vs 0 _ W h.ret (by rw [hl]; rfl)
    rw [hwn]
    simpa using this
  · exact KidsS.keep h.o1 (fun k q => ⟨by omega, by omega⟩) (fun k q => hsame k (by omega))
  · exact KidsS.keep h.o2 (fun k q => ⟨by omega, by omega⟩) (fun k q => hsame k (by omega))
theorem Br.parts_wt (s : Br) : s.name.size + s.e.wt + s.t.wt = s.wt := rfl
set_option linter.unusedVariables false in
set_option linter.unusedSimpArgs false in
set_option maxRecDepth 100000 in
set_option maxHeartbeats 8000000 in
theorem l7Bent_any (B g : Nat) (A0 : Option Addr) (len cap p : Nat) (w : World) (hr : Rd w B g A0 len cap p) (hp : p ≤ 2 ^ 16) :
    Calls Tryz.prog 45 #[.pointer (some ⟨g, 0, none⟩)] w (DrewB 600 5000 w B g A0 len cap p) := by
  have hgw := hr.lt
  obtain ⟨KK, hKK⟩ : ∃ k, k = 600 := ⟨_, rfl⟩
  rw [← hKK]
  obtain ⟨W0, hW0⟩ : ∃ W0, W0 = w.alloc (.cells #[.int .i64 0, .string { data := #[] }, .int .i64 0, .int .i64 0, .string { data := #[] }, .slice none 0 0, .int .i64 0, .int .i64 0, .string { data := #[] }, .slice none 0 0] 33) := ⟨_, rfl⟩
  have hgr0 : w.grownBy W0 (some g) := by rw [hW0]; exact grown_alloc (grown_refl w (some g)) _
  have hB0 : BlkQ W0 w.heap.size #[.int .i64 0, .string { data := #[] }, .int .i64 0, .int .i64 0, .string { data := #[] }, .slice none 0 0, .int .i64 0, .int .i64 0, .string { data := #[] }, .slice none 0 0] := by rw [hW0]; exact World.alloc_heap_new w _
  have hr0 : Rd W0 B g A0 len cap p := by rw [hW0]; exact hr.alloc _
  have hz0 : W0.heap.size = w.heap.size + 1 := by rw [hW0]; simp
  have HSO := Lib.hid (l5Some_shp B g A0 len cap p W0 hr0 (by omega))
  clear hr
  go_enter Tryz.func45, Tryz.ntmps45
  go_wp2_with fail
  rw [← hW0]
  clear hW0
  refine HSO.out.mono ?_
  rintro r w2 ⟨s, S1, S2, d1, d2, rfl, hd1, hd2, ⟨lo1, hi1, l1, l2, hO1⟩, ⟨lo2, hi2, l3, l4, hO2⟩, hwt, ⟨⟨_, hsh0⟩, hsh3⟩, q2, hq2, hq2', hrd2, hgr2⟩
  have hB2 := blkQ_grown hB0 hgr2 (by omega)
  have hg2 := grown_trans hgr0 hgr2
  have hz2 := hgr2.size
  have HOF := Lib.hid (l7Of_any s S1 S2 d1 d2 w2.heap.size w2 hsh0 hsh3 (own_kids _ _ _ _ _ hO1 l2) (own_kids _ _ _ _ _ hO2 l4) hd1 hd2 (Nat.le_refl _))
  clear HSO hO1 hO2 hsh0 hsh3 hd1 hd2 hB0 hgr0 hr0 hgr2
  go_wp2_with fail
  refine HOF.out.mono ?_
  rintro r v2 ⟨b, hbw, A1, A2, c1, c2, rfl, hc1, hc2, hK1, hK2, hbv⟩
  have hzv := hbv.size
  obtain ⟨W3, hW3⟩ : ∃ W3, W3 = v2.alloc (.cells #[.int .i64 b.kind, .string b.name, .int .i64 b.e.kind, .int .i64 b.e.n, .string b.e.s, .slice A1 b.e.kids.length c1, .int .i64 b.t.kind, .int .i64 b.t.n, .string b.t.s, .slice A2 b.t.kids.length c2] 33) := ⟨_, rfl⟩
  have hb3 : Below v2.heap.size v2 W3 := by rw [hW3]; exact (Below.refl _ v2).alloc (Nat.le_refl _) _
  have hs3 : W3.heap.size = v2.heap.size + 1 := by rw [hW3]; simp
  have hE3 : BlkQ W3 v2.heap.size #[.int .i64 b.kind, .string b.name, .int .i64 b.e.kind, .int .i64 b.e.n, .string b.e.s, .slice A1 b.e.kids.length c1, .int .i64 b.t.kind, .int .i64 b.t.n, .string b.t.s, .slice A2 b.t.kids.length c2] := by rw [hW3]; exact World.alloc_heap_new v2 _
  have hb23 : Below w2.heap.size w2 W3 := hbv.trans (hb3.mono hzv)
  have hS3 : SB w B g A0 len cap q2 v2.heap.size #[.int .i64 b.kind, .string b.name, .int .i64 b.e.kind, .int .i64 b.e.n, .string b.e.s, .slice A1 b.e.kids.length c1, .int .i64 b.t.kind, .int .i64 b.t.n, .string b.t.s, .slice A2 b.t.kids.length c2] b.e.kids b.t.kids A1 A2 W3 :=
    ⟨below_rd hrd2 hb23, grown_below' hg2 hb23, (hb23.block _ hB2.lt).trans hB2, hE3, by omega, KidsS.keep hK1 (fun k q => ⟨by omega, by omega, by omega⟩) (fun k q => hb3.block k q.2), KidsS.keep hK2 (fun k q => ⟨by omega, by omega, by omega⟩) (fun k q => hb3.block k q.2)⟩
  have HP := Lib.hid (pick_any B g A0 len cap q2 40 W3 hS3.rd (by omega) (by omega) (by omega))
  have HW := Lib.hid b.parts_wt
  have HS3 := Lib.hid hS3
  clear hB2 hg2 hrd2 hK1 hK2 hE3 hb3 hb23 hbv hS3 HOF
  have hby : (⟨#[]⟩ : ByteArray).size = 0 := rfl
  go_wp2_with fail
  rw [← hW3]
  clear hW3
  refine HP.out.mono ?_
  rintro r w3 ⟨v, hv, rfl, q3, hq3, hq3', hrd3, hgr3⟩
  have hS := HS3.out.grow hgw hrd3 hgr3
  have hz3 := hgr3.size
  clear HP HS3 hrd3 hgr3
  by_cases hv0 : v = 0
  · subst hv0
    have HC := Lib.hid (num_lit [0, 4, 1, 2, 3] B g A0 len cap q3 w3 hS.rd (by omega) (by simp) (by simp))
    have HS := Lib.hid hS
    clear hS
    go_wp2_with fail
    refine HC.out.mono ?_
    rintro r w4 ⟨z, hz, rfl, q4, hq4, hq4', hrd4, hgr4⟩
    have hS4 := HS.out.grow hgw hrd4 hgr4
    have hz4 := hgr4.size

    clear HC HS hz hrd4 hgr4
    have b0 := hS4.box.cell 0
    have bf0 := hS4.box.frozen 0
    simp only [List.getElem?_toArray, List.getElem?_cons_zero, List.getElem?_cons_succ] at b0
    have hS5 := hS4.set hgw 0 (.int .i64 z)
    simp only [List.setIfInBounds_toArray, List.set_cons_zero, List.set_cons_succ] at hS5
    clear hS4
    have y0 := hS5.box.cell 0
    have y1 := hS5.box.cell 1
    have y2 := hS5.box.cell 2
    have y3 := hS5.box.cell 3
    have y4 := hS5.box.cell 4
    have y5 := hS5.box.cell 5
    have y6 := hS5.box.cell 6
    have y7 := hS5.box.cell 7
    have y8 := hS5.box.cell 8
    have y9 := hS5.box.cell 9
    simp only [List.getElem?_toArray, List.getElem?_cons_zero, List.getElem?_cons_succ] at y0 y1 y2 y3 y4 y5 y6 y7 y8 y9
    have x0 := hS5.ret.cell 0
    have x1 := hS5.ret.cell 1
    have x2 := hS5.ret.cell 2
    have x3 := hS5.ret.cell 3
    have x4 := hS5.ret.cell 4
    have x5 := hS5.ret.cell 5
    have x6 := hS5.ret.cell 6
    have x7 := hS5.ret.cell 7
    have x8 := hS5.ret.cell 8
    have x9 := hS5.ret.cell 9
    simp only [List.getElem?_toArray, List.getElem?_cons_zero, List.getElem?_cons_succ] at x0 x1 x2 x3 x4 x5 x6 x7 x8 x9
    have f0 := hS5.ret.frozen 0
    have f1 := hS5.ret.frozen 1
    have f2 := hS5.ret.frozen 2
    have f3 := hS5.ret.frozen 3
    have f4 := hS5.ret.frozen 4
    have f5 := hS5.ret.frozen 5
    have f6 := hS5.ret.frozen 6
    have f7 := hS5.ret.frozen 7
    have f8 := hS5.ret.frozen 8
    have f9 := hS5.ret.frozen 9
    have HS := Lib.hid hS5
    have hlB := hS5.ret.lt
    clear hS5
    go_wp2_with fail
    obtain ⟨wn, hwn⟩ : ∃ wn, wn = (((((((((((w4.setCell ⟨v2.heap.size, 0, none⟩ (.int .i64 z)).setCell ⟨w.heap.size, 0, none⟩ (.int .i64 z)).setCell ⟨w.heap.size, 1, none⟩ (.string b.name)).setCell ⟨w.heap.size, 2, none⟩ (.int .i64 b.e.kind)).setCell ⟨w.heap.size, 3, none⟩ (.int .i64 b.e.n)).setCell ⟨w.heap.size, 4, none⟩ (.string b.e.s)).setCell ⟨w.heap.size, 5, none⟩ (.slice A1 b.e.kids.length c1)).setCell ⟨w.heap.size, 6, none⟩ (.int .i64 b.t.kind)).setCell ⟨w.heap.size, 7, none⟩ (.int .i64 b.t.n)).setCell ⟨w.heap.size, 8, none⟩ (.string b.t.s)).setCell ⟨w.heap.size, 9, none⟩ (.slice A2 b.t.kids.length c2)) := ⟨_, rfl⟩
    have hwa : wn = setAllQ (w4.setCell ⟨v2.heap.size, 0, none⟩ (.int .i64 z)) w.heap.size 0 [.int .i64 z, .string b.name, .int .i64 b.e.kind, .int .i64 b.e.n, .string b.e.s, .slice A1 b.e.kids.length c1, .int .i64 b.t.kind, .int .i64 b.t.n, .string b.t.s, .slice A2 b.t.kids.length c2] := by rw [hwn]; rfl
    rw [← hwn]
    clear hwn
    obtain ⟨hBn, hRn, hO1n, hO2n⟩ := HS.out.finish (K := KK) (p := p) rfl hwa hgw (by omega) (by omega)
    have r0 := hBn.cell 0
    have r1 := hBn.cell 1
    have r2 := hBn.cell 2
    have r3 := hBn.cell 3
    have r4 := hBn.cell 4
    have r5 := hBn.cell 5
    have r6 := hBn.cell 6
    have r7 := hBn.cell 7
    have r8 := hBn.cell 8
    have r9 := hBn.cell 9
    simp only [List.getElem?_toArray, List.getElem?_cons_zero, List.getElem?_cons_succ] at r0 r1 r2 r3 r4 r5 r6 r7 r8 r9
    refine bodyPost_ret (v := .agg #[.int .i64 z, .string b.name, .int .i64 b.e.kind, .int .i64 b.e.n, .string b.e.s, .slice A1 b.e.kids.length c1, .int .i64 b.t.kind, .int .i64 b.t.n, .string b.t.s, .slice A2 b.t.kids.length c2]) (by simp [results, Tryz.results45, go_sem, r0, r1, r2, r3, r4, r5, r6, r7, r8, r9]) rfl ?_
    exact ⟨⟨z, b.name, b.e, b.t⟩, A1, A2, c1, c2, rfl, hc1, hc2, hO1n, hO2n, by have := HW.out; simp only [Br.wt]; omega, hRn⟩
  have pv0 : ((v : Int) == 0) = false := by rw [beq_eq_false_iff_ne]; omega
  by_cases hv1 : v = 1
  · subst hv1
    have HC := Lib.hid (of_lit [⟨#[120]⟩, ⟨#[112, 114, 105, 110, 116]⟩, ⟨#[88]⟩, ⟨#[]⟩] B g A0 len cap q3 w3 hS.rd (by omega) (by simp) (by simp))
    have HS := Lib.hid hS
    clear hS
    go_wp2_with fail
    refine HC.out.mono ?_
    rintro r w4 ⟨n, hn, rfl, q4, hq4, hq4', hrd4, hgr4⟩
    have hS4 := HS.out.grow hgw hrd4 hgr4
    have hz4 := hgr4.size
    have hsn : n.size ≤ 5 := (show ∀ x ∈ ([⟨#[120]⟩, ⟨#[112, 114, 105, 110, 116]⟩, ⟨#[88]⟩, ⟨#[]⟩] : List ByteArray), x.size ≤ 5 by decide) n hn
    clear HC HS hn hrd4 hgr4
    have b1 := hS4.box.cell 1
    have bf1 := hS4.box.frozen 1
    simp only [List.getElem?_toArray, List.getElem?_cons_zero, List.getElem?_cons_succ] at b1
    have hS5 := hS4.set hgw 1 (.string n)
    simp only [List.setIfInBounds_toArray, List.set_cons_zero, List.set_cons_succ] at hS5
    clear hS4
    have y0 := hS5.box.cell 0
    have y1 := hS5.box.cell 1
    have y2 := hS5.box.cell 2
    have y3 := hS5.box.cell 3
    have y4 := hS5.box.cell 4
    have y5 := hS5.box.cell 5
    have y6 := hS5.box.cell 6
    have y7 := hS5.box.cell 7
    have y8 := hS5.box.cell 8
    have y9 := hS5.box.cell 9
    simp only [List.getElem?_toArray, List.getElem?_cons_zero, List.getElem?_cons_succ] at y0 y1 y2 y3 y4 y5 y6 y7 y8 y9
    have x0 := hS5.ret.cell 0
    have x1 := hS5.ret.cell 1
    have x2 := hS5.ret.cell 2
    have x3 := hS5.ret.cell 3
    have x4 := hS5.ret.cell 4
    have x5 := hS5.ret.cell 5
    have x6 := hS5.ret.cell 6
    have x7 := hS5.ret.cell 7
    have x8 := hS5.ret.cell 8
    have x9 := hS5.ret.cell 9
    simp only [List.getElem?_toArray, List.getElem?_cons_zero, List.getElem?_cons_succ] at x0 x1 x2 x3 x4 x5 x6 x7 x8 x9
    have f0 := hS5.ret.frozen 0
    have f1 := hS5.ret.frozen 1
    have f2 := hS5.ret.frozen 2
    have f3 := hS5.ret.frozen 3
    have f4 := hS5.ret.frozen 4
    have f5 := hS5.ret.frozen 5
    have f6 := hS5.ret.frozen 6
    have f7 := hS5.ret.frozen 7
    have f8 := hS5.ret.frozen 8
    have f9 := hS5.ret.frozen 9
    have HS := Lib.hid hS5
    have hlB := hS5.ret.lt
    clear hS5
    go_wp2_with fail
    obtain ⟨wn, hwn⟩ : ∃ wn, wn = (((((((((((w4.setCell ⟨v2.heap.size, 1, none⟩ (.string n)).setCell ⟨w.heap.size, 0, none⟩ (.int .i64 b.kind)).setCell ⟨w.heap.size, 1, none⟩ (.string n)).setCell ⟨w.heap.size, 2, none⟩ (.int .i64 b.e.kind)).setCell ⟨w.heap.size, 3, none⟩ (.int .i64 b.e.n)).setCell ⟨w.heap.size, 4, none⟩ (.string b.e.s)).setCell ⟨w.heap.size, 5, none⟩ (.slice A1 b.e.kids.length c1)).setCell ⟨w.heap.size, 6, none⟩ (.int .i64 b.t.kind)).setCell ⟨w.heap.size, 7, none⟩ (.int .i64 b.t.n)).setCell ⟨w.heap.size, 8, none⟩ (.string b.t.s)).setCell ⟨w.heap.size, 9, none⟩ (.slice A2 b.t.kids.length c2)) := ⟨_, rfl⟩
    have hwa : wn = setAllQ (w4.setCell ⟨v2.heap.size, 1, none⟩ (.string n)) w.heap.size 0 [.int .i64 b.kind, .string n, .int .i64 b.e.kind, .int .i64 b.e.n, .string b.e.s, .slice A1 b.e.kids.length c1, .int .i64 b.t.kind, .int .i64 b.t.n, .string b.t.s, .slice A2 b.t.kids.length c2] := by rw [hwn]; rfl
    rw [← hwn]
    clear hwn
    obtain ⟨hBn, hRn, hO1n, hO2n⟩ := HS.out.finish (K := KK) (p := p) rfl hwa hgw (by omega) (by omega)
    have r0 := hBn.cell 0
    have r1 := hBn.cell 1
    have r2 := hBn.cell 2
    have r3 := hBn.cell 3
    have r4 := hBn.cell 4
    have r5 := hBn.cell 5
    have r6 := hBn.cell 6
    have r7 := hBn.cell 7
    have r8 := hBn.cell 8
    have r9 := hBn.cell 9
    simp only [List.getElem?_toArray, List.getElem?_cons_zero, List.getElem?_cons_succ] at r0 r1 r2 r3 r4 r5 r6 r7 r8 r9
    refine bodyPost_ret (v := .agg #[.int .i64 b.kind, .string n, .int .i64 b.e.kind, .int .i64 b.e.n, .string b.e.s, .slice A1 b.e.kids.length c1, .int .i64 b.t.kind, .int .i64 b.t.n, .string b.t.s, .slice A2 b.t.kids.length c2]) (by simp [results, Tryz.results45, go_sem, r0, r1, r2, r3, r4, r5, r6, r7, r8, r9]) rfl ?_
    exact ⟨⟨b.kind, n, b.e, b.t⟩, A1, A2, c1, c2, rfl, hc1, hc2, hO1n, hO2n, by have := HW.out; simp only [Br.wt]; omega, hRn⟩
  have pv1 : ((v : Int) == 1) = false := by rw [beq_eq_false_iff_ne]; omega
  by_cases hv2 : v = 2
  · subst hv2
    have HC := Lib.hid (l4Bent_any B g A0 len cap q3 w3 hS.rd (by omega))
    have HS := Lib.hid hS
    clear hS
    go_wp2_with fail
    refine HC.out.mono ?_
    rintro r w4 ⟨x, A3, c3, rfl, hc3, hO4, hSh4, hwt4, q4, hq4, hq4', hrd4, hgr4⟩
    have hz4 := hgr4.size
    have hS4 := (HS.out.grow hgw hrd4 hgr4).first (by omega) hO4
    clear HC HS hO4 hrd4 hgr4
    have b2 := hS4.box.cell 2
    have bf2 := hS4.box.frozen 2
    simp only [List.getElem?_toArray, List.getElem?_cons_zero, List.getElem?_cons_succ] at b2
    have b3 := hS4.box.cell 3
    have bf3 := hS4.box.frozen 3
    simp only [List.getElem?_toArray, List.getElem?_cons_zero, List.getElem?_cons_succ] at b3
    have b4 := hS4.box.cell 4
    have bf4 := hS4.box.frozen 4
    simp only [List.getElem?_toArray, List.getElem?_cons_zero, List.getElem?_cons_succ] at b4
    have b5 := hS4.box.cell 5
    have bf5 := hS4.box.frozen 5
    simp only [List.getElem?_toArray, List.getElem?_cons_zero, List.getElem?_cons_succ] at b5
    have hS5 := ((((hS4.set hgw 2 (.int .i64 x.kind)).set hgw 3 (.int .i64 x.n)).set hgw 4 (.string x.s)).set hgw 5 (.slice A3 x.kids.length c3))
    simp only [List.setIfInBounds_toArray, List.set_cons_zero, List.set_cons_succ] at hS5
    clear hS4
    have y0 := hS5.box.cell 0
    have y1 := hS5.box.cell 1
    have y2 := hS5.box.cell 2
    have y3 := hS5.box.cell 3
    have y4 := hS5.box.cell 4
    have y5 := hS5.box.cell 5
    have y6 := hS5.box.cell 6
    have y7 := hS5.box.cell 7
    have y8 := hS5.box.cell 8
    have y9 := hS5.box.cell 9
    simp only [List.getElem?_toArray, List.getElem?_cons_zero, List.getElem?_cons_succ] at y0 y1 y2 y3 y4 y5 y6 y7 y8 y9
    have x0 := hS5.ret.cell 0
    have x1 := hS5.ret.cell 1
    have x2 := hS5.ret.cell 2
    have x3 := hS5.ret.cell 3
    have x4 := hS5.ret.cell 4
    have x5 := hS5.ret.cell 5
    have x6 := hS5.ret.cell 6
    have x7 := hS5.ret.cell 7
    have x8 := hS5.ret.cell 8
    have x9 := hS5.ret.cell 9
    simp only [List.getElem?_toArray, List.getElem?_cons_zero, List.getElem?_cons_succ] at x0 x1 x2 x3 x4 x5 x6 x7 x8 x9
    have f0 := hS5.ret.frozen 0
    have f1 := hS5.ret.frozen 1
    have f2 := hS5.ret.frozen 2
    have f3 := hS5.ret.frozen 3
    have f4 := hS5.ret.frozen 4
    have f5 := hS5.ret.frozen 5
    have f6 := hS5.ret.frozen 6
    have f7 := hS5.ret.frozen 7
    have f8 := hS5.ret.frozen 8
    have f9 := hS5.ret.frozen 9
    have HS := Lib.hid hS5
    have hlB := hS5.ret.lt
    clear hS5
    go_wp2_with fail
    obtain ⟨wn, hwn⟩ : ∃ wn, wn = (((((((((((((((w4.setCell ⟨v2.heap.size, 2, none⟩ (.int .i64 x.kind)).setCell ⟨v2.heap.size, 3, none⟩ (.int .i64 x.n)).setCell ⟨v2.heap.size, 4, none⟩ (.string x.s)).setCell ⟨v2.heap.size, 5, none⟩ (.slice A3 x.kids.length c3))).setCell ⟨w.heap.size, 0, none⟩ (.int .i64 b.kind)).setCell ⟨w.heap.size, 1, none⟩ (.string b.name)).setCell ⟨w.heap.size, 2, none⟩ (.int .i64 x.kind)).setCell ⟨w.heap.size, 3, none⟩ (.int .i64 x.n)).setCell ⟨w.heap.size, 4, none⟩ (.string x.s)).setCell ⟨w.heap.size, 5, none⟩ (.slice A3 x.kids.length c3)).setCell ⟨w.heap.size, 6, none⟩ (.int .i64 b.t.kind)).setCell ⟨w.heap.size, 7, none⟩ (.int .i64 b.t.n)).setCell ⟨w.heap.size, 8, none⟩ (.string b.t.s)).setCell ⟨w.heap.size, 9, none⟩ (.slice A2 b.t.kids.length c2)) := ⟨_, rfl⟩
    have hwa : wn = setAllQ (((((w4.setCell ⟨v2.heap.size, 2, none⟩ (.int .i64 x.kind)).setCell ⟨v2.heap.size, 3, none⟩ (.int .i64 x.n)).setCell ⟨v2.heap.size, 4, none⟩ (.string x.s)).setCell ⟨v2.heap.size, 5, none⟩ (.slice A3 x.kids.length c3))) w.heap.size 0 [.int .i64 b.kind, .string b.name, .int .i64 x.kind, .int .i64 x.n, .string x.s, .slice A3 x.kids.length c3, .int .i64 b.t.kind, .int .i64 b.t.n, .string b.t.s, .slice A2 b.t.kids.length c2] := by rw [hwn]; rfl
    rw [← hwn]
    clear hwn
    obtain ⟨hBn, hRn, hO1n, hO2n⟩ := HS.out.finish (K := KK) (p := p) rfl hwa hgw (by omega) (by omega)
    have r0 := hBn.cell 0
    have r1 := hBn.cell 1
    have r2 := hBn.cell 2
    have r3 := hBn.cell 3
    have r4 := hBn.cell 4
    have r5 := hBn.cell 5
    have r6 := hBn.cell 6
    have r7 := hBn.cell 7
    have r8 := hBn.cell 8
    have r9 := hBn.cell 9
    simp only [List.getElem?_toArray, List.getElem?_cons_zero, List.getElem?_cons_succ] at r0 r1 r2 r3 r4 r5 r6 r7 r8 r9
    refine bodyPost_ret (v := .agg #[.int .i64 b.kind, .string b.name, .int .i64 x.kind, .int .i64 x.n, .string x.s, .slice A3 x.kids.length c3, .int .i64 b.t.kind, .int .i64 b.t.n, .string b.t.s, .slice A2 b.t.kids.length c2]) (by simp [results, Tryz.results45, go_sem, r0, r1, r2, r3, r4, r5, r6, r7, r8, r9]) rfl ?_
    exact ⟨⟨b.kind, b.name, x, b.t⟩, A3, A2, c3, c2, rfl, hc3, hc2, hO1n, hO2n, by have := HW.out; simp only [Br.wt]; omega, hRn⟩
  have pv2 : ((v : Int) == 2) = false := by rw [beq_eq_false_iff_ne]; omega
  by_cases hv3 : v = 3
  · subst hv3
    have HC := Lib.hid (l4Bent_any B g A0 len cap q3 w3 hS.rd (by omega))
    have HS := Lib.hid hS
    clear hS
    go_wp2_with fail
    refine HC.out.mono ?_
    rintro r w4 ⟨x, A3, c3, rfl, hc3, hO4, hSh4, hwt4, q4, hq4, hq4', hrd4, hgr4⟩
    have hz4 := hgr4.size
    have hS4 := (HS.out.grow hgw hrd4 hgr4).second (by omega) hO4
    clear HC HS hO4 hrd4 hgr4
    have b6 := hS4.box.cell 6
    have bf6 := hS4.box.frozen 6
    simp only [List.getElem?_toArray, List.getElem?_cons_zero, List.getElem?_cons_succ] at b6
    have b7 := hS4.box.cell 7
    have bf7 := hS4.box.frozen 7
    simp only [List.getElem?_toArray, List.getElem?_cons_zero, List.getElem?_cons_succ] at b7
    have b8 := hS4.box.cell 8
    have bf8 := hS4.box.frozen 8
    simp only [List.getElem?_toArray, List.getElem?_cons_zero, List.getElem?_cons_succ] at b8
    have b9 := hS4.box.cell 9
    have bf9 := hS4.box.frozen 9
    simp only [List.getElem?_toArray, List.getElem?_cons_zero, List.getElem?_cons_succ] at b9
    have hS5 := ((((hS4.set hgw 6 (.int .i64 x.kind)).set hgw 7 (.int .i64 x.n)).set hgw 8 (.string x.s)).set hgw 9 (.slice A3 x.kids.length c3))
    simp only [List.setIfInBounds_toArray, List.set_cons_zero, List.set_cons_succ] at hS5
    clear hS4
    have y0 := hS5.box.cell 0
    have y1 := hS5.box.cell 1
    have y2 := hS5.box.cell 2
    have y3 := hS5.box.cell 3
    have y4 := hS5.box.cell 4
    have y5 := hS5.box.cell 5
    have y6 := hS5.box.cell 6
    have y7 := hS5.box.cell 7
    have y8 := hS5.box.cell 8
    have y9 := hS5.box.cell 9
    simp only [List.getElem?_toArray, List.getElem?_cons_zero, List.getElem?_cons_succ] at y0 y1 y2 y3 y4 y5 y6 y7 y8 y9
    have x0 := hS5.ret.cell 0
    have x1 := hS5.ret.cell 1
    have x2 := hS5.ret.cell 2
    have x3 := hS5.ret.cell 3
    have x4 := hS5.ret.cell 4
    have x5 := hS5.ret.cell 5
    have x6 := hS5.ret.cell 6
    have x7 := hS5.ret.cell 7
    have x8 := hS5.ret.cell 8
    have x9 := hS5.ret.cell 9
    simp only [List.getElem?_toArray, List.getElem?_cons_zero, List.getElem?_cons_succ] at x0 x1 x2 x3 x4 x5 x6 x7 x8 x9
    have f0 := hS5.ret.frozen 0
    have f1 := hS5.ret.frozen 1
    have f2 := hS5.ret.frozen 2
    have f3 := hS5.ret.frozen 3
    have f4 := hS5.ret.frozen 4
    have f5 := hS5.ret.frozen 5
    have f6 := hS5.ret.frozen 6
    have f7 := hS5.ret.frozen 7
    have f8 := hS5.ret.frozen 8
    have f9 := hS5.ret.frozen 9
    have HS := Lib.hid hS5
    have hlB := hS5.ret.lt
    clear hS5
    go_wp2_with fail
    obtain ⟨wn, hwn⟩ : ∃ wn, wn = (((((((((((((((w4.setCell ⟨v2.heap.size, 6, none⟩ (.int .i64 x.kind)).setCell ⟨v2.heap.size, 7, none⟩ (.int .i64 x.n)).setCell ⟨v2.heap.size, 8, none⟩ (.string x.s)).setCell ⟨v2.heap.size, 9, none⟩ (.slice A3 x.kids.length c3))).setCell ⟨w.heap.size, 0, none⟩ (.int .i64 b.kind)).setCell ⟨w.heap.size, 1, none⟩ (.string b.name)).setCell ⟨w.heap.size, 2, none⟩ (.int .i64 b.e.kind)).setCell ⟨w.heap.size, 3, none⟩ (.int .i64 b.e.n)).setCell ⟨w.heap.size, 4, none⟩ (.string b.e.s)).setCell ⟨w.heap.size, 5, none⟩ (.slice A1 b.e.kids.length c1)).setCell ⟨w.heap.size, 6, none⟩ (.int .i64 x.kind)).setCell ⟨w.heap.size, 7, none⟩ (.int .i64 x.n)).setCell ⟨w.heap.size, 8, none⟩ (.string x.s)).setCell ⟨w.heap.size, 9, none⟩ (.slice A3 x.kids.length c3)) := ⟨_, rfl⟩
    have hwa : wn = setAllQ (((((w4.setCell ⟨v2.heap.size, 6, none⟩ (.int .i64 x.kind)).setCell ⟨v2.heap.size, 7, none⟩ (.int .i64 x.n)).setCell ⟨v2.heap.size, 8, none⟩ (.string x.s)).setCell ⟨v2.heap.size, 9, none⟩ (.slice A3 x.kids.length c3))) w.heap.size 0 [.int .i64 b.kind, .string b.name, .int .i64 b.e.kind, .int .i64 b.e.n, .string b.e.s, .slice A1 b.e.kids.length c1, .int .i64 x.kind, .int .i64 x.n, .string x.s, .slice A3 x.kids.length c3] := by rw [hwn]; rfl
    rw [← hwn]
    clear hwn
    obtain ⟨hBn, hRn, hO1n, hO2n⟩ := HS.out.finish (K := KK) (p := p) rfl hwa hgw (by omega) (by omega)
    have r0 := hBn.cell 0
    have r1 := hBn.cell 1
    have r2 := hBn.cell 2
    have r3 := hBn.cell 3
    have r4 := hBn.cell 4
    have r5 := hBn.cell 5
    have r6 := hBn.cell 6
    have r7 := hBn.cell 7
    have r8 := hBn.cell 8
    have r9 := hBn.cell 9
    simp only [List.getElem?_toArray, List.getElem?_cons_zero, List.getElem?_cons_succ] at r0 r1 r2 r3 r4 r5 r6 r7 r8 r9
    refine bodyPost_ret (v := .agg #[.int .i64 b.kind, .string b.name, .int .i64 b.e.kind, .int .i64 b.e.n, .string b.e.s, .slice A1 b.e.kids.length c1, .int .i64 x.kind, .int .i64 x.n, .string x.s, .slice A3 x.kids.length c3]) (by simp [results, Tryz.results45, go_sem, r0, r1, r2, r3, r4, r5, r6, r7, r8, r9]) rfl ?_
    exact ⟨⟨b.kind, b.name, b.e, x⟩, A1, A3, c1, c3, rfl, hc1, hc3, hO1n, hO2n, by have := HW.out; simp only [Br.wt]; omega, hRn⟩
  have pv3 : ((v : Int) == 3) = false := by rw [beq_eq_false_iff_ne]; omega
  have y0 := hS.box.cell 0
  have y1 := hS.box.cell 1
  have y2 := hS.box.cell 2
  have y3 := hS.box.cell 3
  have y4 := hS.box.cell 4
  have y5 := hS.box.cell 5
  have y6 := hS.box.cell 6
  have y7 := hS.box.cell 7
  have y8 := hS.box.cell 8
  have y9 := hS.box.cell 9
  simp only [List.getElem?_toArray, List.getElem?_cons_zero, List.getElem?_cons_succ] at y0 y1 y2 y3 y4 y5 y6 y7 y8 y9
  have x0 := hS.ret.cell 0
  have x1 := hS.ret.cell 1
  have x2 := hS.ret.cell 2
  have x3 := hS.ret.cell 3
  have x4 := hS.ret.cell 4
  have x5 := hS.ret.cell 5
  have x6 := hS.ret.cell 6
  have x7 := hS.ret.cell 7
  have x8 := hS.ret.cell 8
  have x9 := hS.ret.cell 9
  simp only [List.getElem?_toArray, List.getElem?_cons_zero, List.getElem?_cons_succ] at x0 x1 x2 x3 x4 x5 x6 x7 x8 x9
  have f0 := hS.ret.frozen 0
  have f1 := hS.ret.frozen 1
  have f2 := hS.ret.frozen 2
  have f3 := hS.ret.frozen 3
  have f4 := hS.ret.frozen 4
  have f5 := hS.ret.frozen 5
  have f6 := hS.ret.frozen 6
  have f7 := hS.ret.frozen 7
  have f8 := hS.ret.frozen 8
  have f9 := hS.ret.frozen 9
  have HS := Lib.hid hS
  have hlB := hS.ret.lt
  clear hS
  go_wp2_with fail
  obtain ⟨wn, hwn⟩ : ∃ wn, wn = ((((((((((w3.setCell ⟨w.heap.size, 0, none⟩ (.int .i64 b.kind)).setCell ⟨w.heap.size, 1, none⟩ (.string b.name)).setCell ⟨w.heap.size, 2, none⟩ (.int .i64 b.e.kind)).setCell ⟨w.heap.size, 3, none⟩ (.int .i64 b.e.n)).setCell ⟨w.heap.size, 4, none⟩ (.string b.e.s)).setCell ⟨w.heap.size, 5, none⟩ (.slice A1 b.e.kids.length c1)).setCell ⟨w.heap.size, 6, none⟩ (.int .i64 b.t.kind)).setCell ⟨w.heap.size, 7, none⟩ (.int .i64 b.t.n)).setCell ⟨w.heap.size, 8, none⟩ (.string b.t.s)).setCell ⟨w.heap.size, 9, none⟩ (.slice A2 b.t.kids.length c2)) := ⟨_, rfl⟩
  have hwa : wn = setAllQ (w3) w.heap.size 0 [.int .i64 b.kind, .string b.name, .int .i64 b.e.kind, .int .i64 b.e.n, .string b.e.s, .slice A1 b.e.kids.length c1, .int .i64 b.t.kind, .int .i64 b.t.n, .string b.t.s, .slice A2 b.t.kids.length c2] := by rw [hwn]; rfl
  rw [← hwn]
  clear hwn
  obtain ⟨hBn, hRn, hO1n, hO2n⟩ := HS.out.finish (K := KK) (p := p) rfl hwa hgw (by omega) (by omega)
  have r0 := hBn.cell 0
  have r1 := hBn.cell 1
  have r2 := hBn.cell 2
  have r3 := hBn.cell 3
  have r4 := hBn.cell 4
  have r5 := hBn.cell 5
  have r6 := hBn.cell 6
  have r7 := hBn.cell 7
  have r8 := hBn.cell 8
  have r9 := hBn.cell 9
  simp only [List.getElem?_toArray, List.getElem?_cons_zero, List.getElem?_cons_succ] at r0 r1 r2 r3 r4 r5 r6 r7 r8 r9
  refine bodyPost_ret (v := .agg #[.int .i64 b.kind, .string b.name, .int .i64 b.e.kind, .int .i64 b.e.n, .string b.e.s, .slice A1 b.e.kids.length c1, .int .i64 b.t.kind, .int .i64 b.t.n, .string b.t.s, .slice A2 b.t.kids.length c2]) (by simp [results, Tryz.results45, go_sem, r0, r1, r2, r3, r4, r5, r6, r7, r8, r9]) rfl ?_
  exact ⟨b, A1, A2, c1, c2, rfl, hc1, hc2, hO1n, hO2n, by omega, hRn⟩
/-- A line was drawn by a code, in memory of its own. -/
def DrawnB (w : World) (r : Ending) (w' : World) : Prop :=
  ∃ (s : Br) (A1 A2 : Option Addr) (c1 c2 : Nat), r = .returned (.agg #[.int .i64 s.kind, .string s.name, .int .i64 s.e.kind, .int .i64 s.e.n, .string s.e.s, .slice A1 s.e.kids.length c1, .int .i64 s.t.kind, .int .i64 s.t.n, .string s.t.s, .slice A2 s.t.kids.length c2]) ∧ s.e.kids.length ≤ c1 ∧ s.t.kids.length ≤ c2 ∧ KidsIn w.heap.size w' A1 s.e.kids ∧ KidsIn w.heap.size w' A2 s.t.kids ∧ s.wt ≤ 5000 ∧ Below w.heap.size w w'
set_option linter.unusedVariables false in
set_option linter.unusedSimpArgs false in
set_option maxRecDepth 100000 in
set_option maxHeartbeats 8000000 in
theorem drawBareOk_any (A : Option Addr) (len cap : Nat) (w : World) (h : InCode w A len cap) : Calls Tryz.prog 15 #[.slice A len cap] w (DrawnB w) := by
  obtain ⟨W0, hW0⟩ : ∃ W0, W0 = w.alloc (.cells #[.int .i64 0, .string { data := #[] }, .int .i64 0, .int .i64 0, .string { data := #[] }, .slice none 0 0, .int .i64 0, .int .i64 0, .string { data := #[] }, .slice none 0 0] 33) := ⟨_, rfl⟩
  have hb0 : Below w.heap.size w W0 := by rw [hW0]; exact (Below.refl _ w).alloc (Nat.le_refl _) _
  have hs0 : w.heap.size < W0.heap.size := by rw [hW0]; simp
  have hB0 : BlkQ W0 w.heap.size #[.int .i64 0, .string { data := #[] }, .int .i64 0, .int .i64 0, .string { data := #[] }, .slice none 0 0, .int .i64 0, .int .i64 0, .string { data := #[] }, .slice none 0 0] := by rw [hW0]; exact World.alloc_heap_new w _
  have HO := Lib.hid (open_any A len cap W0 (h.below hb0))
  clear h
  go_enter Tryz.func15, Tryz.ntmps15
  go_wp2_with fail
  rw [← hW0]
  refine HO.out.mono ?_
  rintro r w1 ⟨A', len', cap', rfl, hrd, hb1⟩
  have HI := Lib.hid (l7Bent_any W0.heap.size W0.heap.size A' len' cap' 0 w1 hrd (by omega))
  have hB1 : BlkQ w1 w.heap.size _ := (hb1.block _ hB0.lt).trans hB0
  have hz1 := hb1.size
  clear HO hrd hW0
  go_wp2_with fail
  refine HI.out.mono ?_
  rintro r w2 ⟨b, A1, A2, c1, c2, rfl, hc1, hc2, hO1, hO2, hwt, q, _, _, _, hgr⟩
  have hB2 := blkQ_grown hB1 hgr (by omega)
  have hz2 := hgr.size
  have x0 := hB2.cell 0
  have x1 := hB2.cell 1
  have x2 := hB2.cell 2
  have x3 := hB2.cell 3
  have x4 := hB2.cell 4
  have x5 := hB2.cell 5
  have x6 := hB2.cell 6
  have x7 := hB2.cell 7
  have x8 := hB2.cell 8
  have x9 := hB2.cell 9
  simp only [List.getElem?_toArray, List.getElem?_cons_zero, List.getElem?_cons_succ] at x0 x1 x2 x3 x4 x5 x6 x7 x8 x9
  have f0 := hB2.frozen 0
  have f1 := hB2.frozen 1
  have f2 := hB2.frozen 2
  have f3 := hB2.frozen 3
  have f4 := hB2.frozen 4
  have f5 := hB2.frozen 5
  have f6 := hB2.frozen 6
  have f7 := hB2.frozen 7
  have f8 := hB2.frozen 8
  have f9 := hB2.frozen 9
  have HO1 := Lib.hid hO1
  have HO2 := Lib.hid hO2
  have HB2 := Lib.hid hB2
  have hlB := hB2.lt
  have HBL := Lib.hid (show Below w.heap.size w w2 from hb0.trans ((hb1.mono hb0.size).trans (grown_below hgr (by omega) (by omega))))
  clear hO1 hO2 hB2 HI hgr hB1 hb0 hb1 hB0
  go_wp2_with fail
  obtain ⟨wn, hwn⟩ : ∃ wn, wn = ((((((((((w2.setCell ⟨w.heap.size, 0, none⟩ (.int .i64 b.kind)).setCell ⟨w.heap.size, 1, none⟩ (.string b.name)).setCell ⟨w.heap.size, 2, none⟩ (.int .i64 b.e.kind)).setCell ⟨w.heap.size, 3, none⟩ (.int .i64 b.e.n)).setCell ⟨w.heap.size, 4, none⟩ (.string b.e.s)).setCell ⟨w.heap.size, 5, none⟩ (.slice A1 b.e.kids.length c1)).setCell ⟨w.heap.size, 6, none⟩ (.int .i64 b.t.kind)).setCell ⟨w.heap.size, 7, none⟩ (.int .i64 b.t.n)).setCell ⟨w.heap.size, 8, none⟩ (.string b.t.s)).setCell ⟨w.heap.size, 9, none⟩ (.slice A2 b.t.kids.length c2)) := ⟨_, rfl⟩
  have hwa : wn = setAllQ w2 w.heap.size 0 [.int .i64 b.kind, .string b.name, .int .i64 b.e.kind, .int .i64 b.e.n, .string b.e.s, .slice A1 b.e.kids.length c1, .int .i64 b.t.kind, .int .i64 b.t.n, .string b.t.s, .slice A2 b.t.kids.length c2] := by rw [hwn]; rfl
  rw [← hwn]
  clear hwn
  have hBn : BlkQ wn w.heap.size #[.int .i64 b.kind, .string b.name, .int .i64 b.e.kind, .int .i64 b.e.n, .string b.e.s, .slice A1 b.e.kids.length c1, .int .i64 b.t.kind, .int .i64 b.t.n, .string b.t.s, .slice A2 b.t.kids.length c2] := by rw [hwa]; exact setAllQ_blk [.int .i64 b.kind, .string b.name, .int .i64 b.e.kind, .int .i64 b.e.n, .string b.e.s, .slice A1 b.e.kids.length c1, .int .i64 b.t.kind, .int .i64 b.t.n, .string b.t.s, .slice A2 b.t.kids.length c2] 0 _ w2 HB2.out rfl
  have hsn : ∀ k, k ≠ w.heap.size → wn.heap[k]? = w2.heap[k]? := fun k hk => by rw [hwa]; exact setAllQ_other _ _ _ _ hk
  have hzn : wn.heap.size = w2.heap.size := by rw [hwa]; exact setAllQ_size _ _ _ _
  have hosn : wn.os = w2.os ∧ wn.tape = w2.tape ∧ wn.output = w2.output := by rw [hwa]; exact setAllQ_os _ _ _ _
  have r0 := hBn.cell 0
  have r1 := hBn.cell 1
  have r2 := hBn.cell 2
  have r3 := hBn.cell 3
  have r4 := hBn.cell 4
  have r5 := hBn.cell 5
  have r6 := hBn.cell 6
  have r7 := hBn.cell 7
  have r8 := hBn.cell 8
  have r9 := hBn.cell 9
  simp only [List.getElem?_toArray, List.getElem?_cons_zero, List.getElem?_cons_succ] at r0 r1 r2 r3 r4 r5 r6 r7 r8 r9
  refine bodyPost_ret (v := .agg #[.int .i64 b.kind, .string b.name, .int .i64 b.e.kind, .int .i64 b.e.n, .string b.e.s, .slice A1 b.e.kids.length c1, .int .i64 b.t.kind, .int .i64 b.t.n, .string b.t.s, .slice A2 b.t.kids.length c2]) (by simp [results, Tryz.results15, go_sem, r0, r1, r2, r3, r4, r5, r6, r7, r8, r9]) rfl ?_
  have hbl := HBL.out
  exact ⟨b, A1, A2, c1, c2, rfl, hc1, hc2, KidsS.keep HO1.out (fun k q => ⟨by omega, by omega⟩) (fun k q => hsn k (by omega)), KidsS.keep HO2.out (fun k q => ⟨by omega, by omega⟩) (fun k q => hsn k (by omega)), hwt, hbl.trans ⟨hosn.1, hosn.2.1, hosn.2.2, by omega, fun k hk => hsn k (by omega)⟩⟩
end Go.Proofs.YtkllhnhinealfaaGreatDoor
