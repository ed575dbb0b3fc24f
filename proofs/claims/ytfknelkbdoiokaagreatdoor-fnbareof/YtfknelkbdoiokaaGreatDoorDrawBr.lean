/-
  The contract of the model's l7Of: a line without types, of one that is right.
-/
import Derived.Test.YtfknelkbdoiokaaGreatDoorDeed
import Derived.Test.YtfknelkbdoiokaaGreatDoorGJ
import Derived.Test.YtfknelkbdoiokaaGreatDoorGA
namespace Go.Proofs.YtfknelkbdoiokaaGreatDoor
open Go.RowKit

def BlkQ (w : World) (g : Nat) (cur : Array Value) : Prop := w.heap[g]? = some (.cells cur 52 (0, 0))
theorem BlkQ.lt {w : World} {g : Nat} {cur : Array Value} (h : BlkQ w g cur) : g < w.heap.size := (Array.getElem?_eq_some_iff.1 h).1
theorem BlkQ.cell {w : World} {g : Nat} {cur : Array Value} (h : BlkQ w g cur) (i : Nat) : w.cell? ⟨g, i, none⟩ = cur[i]? := by simp [World.cell?, show w.heap[g]? = _ from h]
theorem BlkQ.frozen {w : World} {g : Nat} {cur : Array Value} (h : BlkQ w g cur) (i : Nat) : w.frozen? ⟨g, i, none⟩ = false := by simp [World.frozen?, show w.heap[g]? = _ from h]
theorem BlkQ.set {w : World} {g : Nat} {cur : Array Value} (h : BlkQ w g cur) (i : Nat) (v : Value) : BlkQ (w.setCell ⟨g, i, none⟩ v) g (cur.setIfInBounds i v) := heap_setCell_same w g i cur _ v h
def setAllQ (w : World) (g : Nat) : Nat → List Value → World
  | _, [] => w
  | k, v :: vs => setAllQ (w.setCell ⟨g, k, none⟩ v) g (k + 1) vs
theorem setAllQ_other (g : Nat) : ∀ (vs : List Value) (k : Nat) (w : World) {b : Nat}, b ≠ g → (setAllQ w g k vs).heap[b]? = w.heap[b]? := by
  intro vs
  induction vs with
  | nil => intro k w b _; rfl
  | cons v vs ih => intro k w b hb; rw [setAllQ, ih (k + 1) _ hb]; exact Below.heap_setCell _ _ _ b hb
theorem setAllQ_size (g : Nat) : ∀ (vs : List Value) (k : Nat) (w : World), (setAllQ w g k vs).heap.size = w.heap.size := by
  intro vs
  induction vs with
  | nil => intro k w; rfl
  | cons v vs ih => intro k w; rw [setAllQ, ih]; simp
theorem setAllQ_os (g : Nat) : ∀ (vs : List Value) (k : Nat) (w : World), (setAllQ w g k vs).os = w.os ∧ (setAllQ w g k vs).tape = w.tape ∧ (setAllQ w g k vs).output = w.output := by
  intro vs
  induction vs with
  | nil => intro k w; exact ⟨rfl, rfl, rfl⟩
  | cons v vs ih => intro k w; rw [setAllQ]; exact ih (k + 1) _
theorem setAllQ_blk {g : Nat} : ∀ (vs : List Value) (k : Nat) (cur : Array Value) (w : World), BlkQ w g cur → k + vs.length = cur.size → BlkQ (setAllQ w g k vs) g (cur.toList.take k ++ vs).toArray := by
  intro vs
  induction vs with
  | nil =>
    intro k cur w h hl
    rw [setAllQ, List.append_nil, List.take_of_length_le (by simp at hl ⊢; omega)]
    simpa using h
  | cons v vs ih =>
    intro k cur w h hl
    rw [setAllQ]
    have h1 := ih (k + 1) _ _ (h.set k v) (by simp at hl ⊢; omega)
    have e : (cur.setIfInBounds k v).toList.take (k + 1) = cur.toList.take k ++ [v] := by
      simp only [List.length_cons] at hl
      rw [Array.toList_setIfInBounds, List.take_succ_eq_append_getElem (by simp; omega), List.take_set_of_le (Nat.le_refl _)]
      simp
    rw [e, List.append_assoc] at h1
    exact h1
theorem BlkQ.stay {w w' : World} {g : Nat} {cur : Array Value} (h : BlkQ w g cur) (hb : w'.heap[g]? = w.heap[g]?) : BlkQ w' g cur := hb.trans h

/-- Kids in memory from this block on. -/
def KidsIn (lo : Nat) (W : World) (A : Option Addr) (ks : List Ex) : Prop := KidsS W (fun b => lo ≤ b ∧ b < W.heap.size) A ks
/-- A line without types is handed back; the kids lie in memory that was not there before. -/
def GivesBare (s : Br) (w : World) (r : Ending) (w' : World) : Prop :=
  ∃ A1 A2 c1 c2, r = .returned (.agg #[.int .i64 s.kind, .string s.name, .int .i64 s.e.kind, .int .i64 s.e.n, .string s.e.s, .slice A1 s.e.kids.length c1, .int .i64 s.t.kind, .int .i64 s.t.n, .string s.t.s, .slice A2 s.t.kids.length c2]) ∧ s.e.kids.length ≤ c1 ∧ s.t.kids.length ≤ c2 ∧ KidsIn w.heap.size w' A1 s.e.kids ∧ KidsIn w.heap.size w' A2 s.t.kids ∧ Below w.heap.size w w'
theorem three_boxes (X V : World) (A B C : Array Value) (h : V = ((X.alloc (.cells A 35)).alloc (.cells B 52)).alloc (.cells C 52)) :
    V.heap.size = X.heap.size + 1 + 1 + 1 ∧ BlkS V X.heap.size A ∧ BlkQ V (X.heap.size + 1) B ∧ BlkQ V (X.heap.size + 1 + 1) C ∧ Below X.heap.size X V := by
  subst h
  refine ⟨by simp, ?_, ?_, ?_, (((Below.refl _ X).alloc (Nat.le_refl _) _).alloc (by simp) _).alloc (by simp <;> omega) _⟩
  · unfold BlkS
    rw [Below.heap_alloc _ _ _ (by simp <;> omega), Below.heap_alloc _ _ _ (by simp)]
    exact World.alloc_heap_new X _
  · have h := World.alloc_heap_new (X.alloc (.cells A 35)) (.cells B 52)
    rw [World.size_alloc] at h
    unfold BlkQ
    rw [Below.heap_alloc _ _ _ (by simp)]
    exact h
  · have h := World.alloc_heap_new ((X.alloc (.cells A 35)).alloc (.cells B 52)) (.cells C 52)
    rw [World.size_alloc, World.size_alloc] at h
    exact h
theorem below_of {W W' : World} {B b : Nat} (hb : B ≤ b) (hz : W'.heap.size = W.heap.size) (hk : ∀ j, j ≠ b → W'.heap[j]? = W.heap[j]?) (ho : W'.os = W.os ∧ W'.tape = W.tape ∧ W'.output = W.output) : Below B W W' := ⟨ho.1, ho.2.1, ho.2.2, by omega, fun j hj => hk j (by omega)⟩
set_option linter.unusedVariables false in
set_option linter.unusedSimpArgs false in
set_option maxRecDepth 100000 in
set_option maxHeartbeats 8000000 in
theorem l7Of_zero (n t : ByteArray) (e x : Ex) (A1 A2 : Option Addr) (c1 c2 : Nat) (w : World) :
    Calls Tryz.prog 82 #[stV ⟨0, n, t, e, x⟩ A1 A2 c1 c2] w (GivesBare ⟨0, n, Ex.zero, Ex.zero⟩ w) := by
  unfold stV
  go_enter Tryz.func82, Tryz.ntmps82
  go_wp2_with fail
  obtain ⟨W3, hW3⟩ : ∃ W3, W3 = ((w.alloc (.cells #[.int .i64 0, .string n, .string t, .int .i64 e.kind, .int .i64 e.n, .string e.s, .slice A1 e.kids.length c1, .int .i64 x.kind, .int .i64 x.n, .string x.s, .slice A2 x.kids.length c2] 35)).alloc (.cells #[.int .i64 0, .string n, .int .i64 0, .int .i64 0, .string { data := #[] }, .slice none 0 0, .int .i64 0, .int .i64 0, .string { data := #[] }, .slice none 0 0] 52)).alloc (.cells #[.int .i64 0, .string n, .int .i64 0, .int .i64 0, .string { data := #[] }, .slice none 0 0, .int .i64 0, .int .i64 0, .string { data := #[] }, .slice none 0 0] 52) := ⟨_, rfl⟩
  obtain ⟨hz3, hB0, hB1, hB2, hbw⟩ := three_boxes w W3 _ _ _ hW3
  rw [← hW3]
  have r0 := hB1.cell 0
  have r1 := hB1.cell 1
  have r2 := hB1.cell 2
  have r3 := hB1.cell 3
  have r4 := hB1.cell 4
  have r5 := hB1.cell 5
  have r6 := hB1.cell 6
  have r7 := hB1.cell 7
  have r8 := hB1.cell 8
  have r9 := hB1.cell 9
  simp only [List.getElem?_toArray, List.getElem?_cons_zero, List.getElem?_cons_succ] at r0 r1 r2 r3 r4 r5 r6 r7 r8 r9
  refine bodyPost_ret (v := .agg #[.int .i64 0, .string n, .int .i64 0, .int .i64 0, .string { data := #[] }, .slice none 0 0, .int .i64 0, .int .i64 0, .string { data := #[] }, .slice none 0 0]) (by simp [results, Tryz.results82, go_sem, r0, r1, r2, r3, r4, r5, r6, r7, r8, r9]) rfl ?_
  exact ⟨none, none, 0, 0, rfl, Nat.le_refl _, Nat.le_refl _, .nil, .nil, hbw⟩
set_option linter.unusedVariables false in
set_option linter.unusedSimpArgs false in
set_option maxRecDepth 100000 in
set_option maxHeartbeats 8000000 in
theorem l7Of_one (k : Int) (hk0 : k ≠ 0) (hk3 : k ≠ 3) (n t : ByteArray) (p : Pt) (x : Ex) (A1 A2 : Option Addr) (c1 c2 B : Nat) (w : World) (hA : KidsAt w B A1 p.ex.kids) (hc : p.ex.kids.length ≤ c1) (hB : B ≤ w.heap.size) :
    Calls Tryz.prog 82 #[stV ⟨k, n, t, p.ex, x⟩ A1 A2 c1 c2] w (GivesBare ⟨k, n, p.bare.ex, Ex.zero⟩ w) := by
  have qk0 : (k != 0) = true := by simpa using hk0
  have qk3 : (k == 3) = false := by simpa using hk3
  obtain ⟨W3, hW3⟩ : ∃ W3, W3 = ((w.alloc (.cells #[.int .i64 k, .string n, .string t, .int .i64 p.ex.kind, .int .i64 p.ex.n, .string p.ex.s, .slice A1 p.ex.kids.length c1, .int .i64 x.kind, .int .i64 x.n, .string x.s, .slice A2 x.kids.length c2] 35)).alloc (.cells #[.int .i64 0, .string { data := #[] }, .int .i64 0, .int .i64 0, .string { data := #[] }, .slice none 0 0, .int .i64 0, .int .i64 0, .string { data := #[] }, .slice none 0 0] 52)).alloc (.cells #[.int .i64 k, .string n, .int .i64 0, .int .i64 0, .string { data := #[] }, .slice none 0 0, .int .i64 0, .int .i64 0, .string { data := #[] }, .slice none 0 0] 52) := ⟨_, rfl⟩
  obtain ⟨hz3, hB0, hB1, hB2, hbw⟩ := three_boxes w W3 #[.int .i64 k, .string n, .string t, .int .i64 p.ex.kind, .int .i64 p.ex.n, .string p.ex.s, .slice A1 p.ex.kids.length c1, .int .i64 x.kind, .int .i64 x.n, .string x.s, .slice A2 x.kids.length c2] #[.int .i64 0, .string { data := #[] }, .int .i64 0, .int .i64 0, .string { data := #[] }, .slice none 0 0, .int .i64 0, .int .i64 0, .string { data := #[] }, .slice none 0 0] #[.int .i64 k, .string n, .int .i64 0, .int .i64 0, .string { data := #[] }, .slice none 0 0, .int .i64 0, .int .i64 0, .string { data := #[] }, .slice none 0 0] hW3
  have HC := Lib.hid (l4Bare_any p A1 c1 B W3 (hA.keep (hbw.mono hB)) hc (by omega))
  have H0 := Lib.hid hB0
  have H1 := Lib.hid hB1
  have H2 := Lib.hid hB2
  have HBW := Lib.hid hbw
  clear hB0 hB1 hB2 hbw hA
  unfold stV
  go_enter Tryz.func82, Tryz.ntmps82
  go_wp2_with fail
  rw [← hW3]
  clear hW3
  refine HC.out.mono ?_
  rintro r w4 ⟨A5, c5, rfl, hc5, hK5, hb4⟩
  have hz4 := hb4.size
  have h0 := H0.out.stay (hb4.block _ (by omega))
  have h1 := H1.out.stay (hb4.block _ (by omega))
  have h2 := H2.out.stay (hb4.block _ (by omega))
  have HK5 := Lib.hid hK5
  have HB4 := Lib.hid hb4
  clear HC hK5 hb4 H0 H1 H2
  have a0 := h0.cell 0
  simp only [List.getElem?_toArray, List.getElem?_cons_zero, List.getElem?_cons_succ] at a0

  have g2 := h2.frozen 2
  have g3 := h2.frozen 3
  have g4 := h2.frozen 4
  have g5 := h2.frozen 5
  have o2 := h2.cell 2
  have o3 := h2.cell 3
  have o4 := h2.cell 4
  have o5 := h2.cell 5
  simp only [List.getElem?_toArray, List.getElem?_cons_zero, List.getElem?_cons_succ] at o2 o3 o4 o5
  have h5 := (((h2.set 2 (.int .i64 p.bare.ex.kind)).set 3 (.int .i64 p.bare.ex.n)).set 4 (.string p.bare.ex.s)).set 5 (.slice A5 p.bare.ex.kids.length c5)
  simp only [List.setIfInBounds_toArray, List.set_cons_zero, List.set_cons_succ] at h5
  have hz5 : ((((w4.setCell ⟨(w.heap.size + 1 + 1), 2, none⟩ (.int .i64 p.bare.ex.kind)).setCell ⟨(w.heap.size + 1 + 1), 3, none⟩ (.int .i64 p.bare.ex.n)).setCell ⟨(w.heap.size + 1 + 1), 4, none⟩ (.string p.bare.ex.s)).setCell ⟨(w.heap.size + 1 + 1), 5, none⟩ (.slice A5 p.bare.ex.kids.length c5)).heap.size = w4.heap.size := by simp
  have hk5 : ∀ j, j ≠ w.heap.size + 1 + 1 → ((((w4.setCell ⟨(w.heap.size + 1 + 1), 2, none⟩ (.int .i64 p.bare.ex.kind)).setCell ⟨(w.heap.size + 1 + 1), 3, none⟩ (.int .i64 p.bare.ex.n)).setCell ⟨(w.heap.size + 1 + 1), 4, none⟩ (.string p.bare.ex.s)).setCell ⟨(w.heap.size + 1 + 1), 5, none⟩ (.slice A5 p.bare.ex.kids.length c5)).heap[j]? = w4.heap[j]? := fun j hj => by rw [Below.heap_setCell _ _ _ j hj, Below.heap_setCell _ _ _ j hj, Below.heap_setCell _ _ _ j hj, Below.heap_setCell _ _ _ j hj]
  have h15 := h1.stay (hk5 _ (by omega))
  have h05 := h0.stay (hk5 _ (by omega))
  have b0 := h05.cell 0
  simp only [List.getElem?_toArray, List.getElem?_cons_zero, List.getElem?_cons_succ] at b0

  have y0 := h5.cell 0
  have y1 := h5.cell 1
  have y2 := h5.cell 2
  have y3 := h5.cell 3
  have y4 := h5.cell 4
  have y5 := h5.cell 5
  have y6 := h5.cell 6
  have y7 := h5.cell 7
  have y8 := h5.cell 8
  have y9 := h5.cell 9
  simp only [List.getElem?_toArray, List.getElem?_cons_zero, List.getElem?_cons_succ] at y0 y1 y2 y3 y4 y5 y6 y7 y8 y9
  have x0 := h15.cell 0
  have x1 := h15.cell 1
  have x2 := h15.cell 2
  have x3 := h15.cell 3
  have x4 := h15.cell 4
  have x5 := h15.cell 5
  have x6 := h15.cell 6
  have x7 := h15.cell 7
  have x8 := h15.cell 8
  have x9 := h15.cell 9
  simp only [List.getElem?_toArray, List.getElem?_cons_zero, List.getElem?_cons_succ] at x0 x1 x2 x3 x4 x5 x6 x7 x8 x9
  have f0 := h15.frozen 0
  have f1 := h15.frozen 1
  have f2 := h15.frozen 2
  have f3 := h15.frozen 3
  have f4 := h15.frozen 4
  have f5 := h15.frozen 5
  have f6 := h15.frozen 6
  have f7 := h15.frozen 7
  have f8 := h15.frozen 8
  have f9 := h15.frozen 9
  have H15 := Lib.hid h15
  have HKK := Lib.hid hk5
  have HZ5 := Lib.hid hz5
  clear h0 h1 h2 h5 h15 h05 hk5 hz5
  go_wp2_with fail
  obtain ⟨wn, hwn⟩ : ∃ wn, wn = ((((((((((((((w4.setCell ⟨(w.heap.size + 1 + 1), 2, none⟩ (.int .i64 p.bare.ex.kind)).setCell ⟨(w.heap.size + 1 + 1), 3, none⟩ (.int .i64 p.bare.ex.n)).setCell ⟨(w.heap.size + 1 + 1), 4, none⟩ (.string p.bare.ex.s)).setCell ⟨(w.heap.size + 1 + 1), 5, none⟩ (.slice A5 p.bare.ex.kids.length c5)).setCell ⟨(w.heap.size + 1), 0, none⟩ (.int .i64 k)).setCell ⟨(w.heap.size + 1), 1, none⟩ (.string n)).setCell ⟨(w.heap.size + 1), 2, none⟩ (.int .i64 p.bare.ex.kind)).setCell ⟨(w.heap.size + 1), 3, none⟩ (.int .i64 p.bare.ex.n)).setCell ⟨(w.heap.size + 1), 4, none⟩ (.string p.bare.ex.s)).setCell ⟨(w.heap.size + 1), 5, none⟩ (.slice A5 p.bare.ex.kids.length c5)).setCell ⟨(w.heap.size + 1), 6, none⟩ (.int .i64 0)).setCell ⟨(w.heap.size + 1), 7, none⟩ (.int .i64 0)).setCell ⟨(w.heap.size + 1), 8, none⟩ (.string { data := #[] })).setCell ⟨(w.heap.size + 1), 9, none⟩ (.slice none 0 0)) := ⟨_, rfl⟩
  have hwa : wn = setAllQ (((((w4.setCell ⟨(w.heap.size + 1 + 1), 2, none⟩ (.int .i64 p.bare.ex.kind)).setCell ⟨(w.heap.size + 1 + 1), 3, none⟩ (.int .i64 p.bare.ex.n)).setCell ⟨(w.heap.size + 1 + 1), 4, none⟩ (.string p.bare.ex.s)).setCell ⟨(w.heap.size + 1 + 1), 5, none⟩ (.slice A5 p.bare.ex.kids.length c5))) (w.heap.size + 1) 0 [.int .i64 k, .string n, .int .i64 p.bare.ex.kind, .int .i64 p.bare.ex.n, .string p.bare.ex.s, .slice A5 p.bare.ex.kids.length c5, .int .i64 0, .int .i64 0, .string { data := #[] }, .slice none 0 0] := by rw [hwn]; rfl
  rw [← hwn]
  clear hwn
  have hBn := setAllQ_blk [.int .i64 k, .string n, .int .i64 p.bare.ex.kind, .int .i64 p.bare.ex.n, .string p.bare.ex.s, .slice A5 p.bare.ex.kids.length c5, .int .i64 0, .int .i64 0, .string { data := #[] }, .slice none 0 0] 0 _ (((((w4.setCell ⟨(w.heap.size + 1 + 1), 2, none⟩ (.int .i64 p.bare.ex.kind)).setCell ⟨(w.heap.size + 1 + 1), 3, none⟩ (.int .i64 p.bare.ex.n)).setCell ⟨(w.heap.size + 1 + 1), 4, none⟩ (.string p.bare.ex.s)).setCell ⟨(w.heap.size + 1 + 1), 5, none⟩ (.slice A5 p.bare.ex.kids.length c5))) H15.out rfl
  rw [← hwa] at hBn
  have hsame : ∀ j, j ≠ w.heap.size + 1 → wn.heap[j]? = (((((w4.setCell ⟨(w.heap.size + 1 + 1), 2, none⟩ (.int .i64 p.bare.ex.kind)).setCell ⟨(w.heap.size + 1 + 1), 3, none⟩ (.int .i64 p.bare.ex.n)).setCell ⟨(w.heap.size + 1 + 1), 4, none⟩ (.string p.bare.ex.s)).setCell ⟨(w.heap.size + 1 + 1), 5, none⟩ (.slice A5 p.bare.ex.kids.length c5))).heap[j]? := fun j hj => by rw [hwa]; exact setAllQ_other _ _ _ _ hj
  have hzn : wn.heap.size = (((((w4.setCell ⟨(w.heap.size + 1 + 1), 2, none⟩ (.int .i64 p.bare.ex.kind)).setCell ⟨(w.heap.size + 1 + 1), 3, none⟩ (.int .i64 p.bare.ex.n)).setCell ⟨(w.heap.size + 1 + 1), 4, none⟩ (.string p.bare.ex.s)).setCell ⟨(w.heap.size + 1 + 1), 5, none⟩ (.slice A5 p.bare.ex.kids.length c5))).heap.size := by rw [hwa]; exact setAllQ_size _ _ _ _
  have hon := setAllQ_os (w.heap.size + 1) [.int .i64 k, .string n, .int .i64 p.bare.ex.kind, .int .i64 p.bare.ex.n, .string p.bare.ex.s, .slice A5 p.bare.ex.kids.length c5, .int .i64 0, .int .i64 0, .string { data := #[] }, .slice none 0 0] 0 (((((w4.setCell ⟨(w.heap.size + 1 + 1), 2, none⟩ (.int .i64 p.bare.ex.kind)).setCell ⟨(w.heap.size + 1 + 1), 3, none⟩ (.int .i64 p.bare.ex.n)).setCell ⟨(w.heap.size + 1 + 1), 4, none⟩ (.string p.bare.ex.s)).setCell ⟨(w.heap.size + 1 + 1), 5, none⟩ (.slice A5 p.bare.ex.kids.length c5)))
  rw [← hwa] at hon
  simp only [List.take_zero, List.nil_append] at hBn
  have r0 := hBn.cell 0
  have r1 := hBn.cell 1
  have r2 := hBn.cell 2
  have r3 := hBn.cell 3
  have r4 := hBn.cell 4
  have r5 := hBn.cell 5
  have r6 := hBn.cell 6
  have r7 := hBn.cell 7
  have r8 := hBn.cell 8
  have r9 := hBn.cell 9
  simp only [List.getElem?_toArray, List.getElem?_cons_zero, List.getElem?_cons_succ] at r0 r1 r2 r3 r4 r5 r6 r7 r8 r9
  refine bodyPost_ret (v := .agg #[.int .i64 k, .string n, .int .i64 p.bare.ex.kind, .int .i64 p.bare.ex.n, .string p.bare.ex.s, .slice A5 p.bare.ex.kids.length c5, .int .i64 0, .int .i64 0, .string { data := #[] }, .slice none 0 0]) (by simp [results, Tryz.results82, go_sem, r0, r1, r2, r3, r4, r5, r6, r7, r8, r9]) rfl ?_
  have hK : ∀ b, W3.heap.size ≤ b → wn.heap[b]? = w4.heap[b]? := fun b hb => (hsame b (by omega)).trans (HKK.out b (by omega))
  refine ⟨A5, none, c5, 0, rfl, hc5, Nat.le_refl _, HK5.out.keep (fun b h => ⟨by omega, by rw [hzn, HZ5.out]; exact h.2⟩) (fun b h => hK b h.1), .nil, ?_⟩
  refine ⟨hon.1.trans (HB4.out.os.trans HBW.out.os), hon.2.1.trans (HB4.out.tape.trans HBW.out.tape), hon.2.2.trans (HB4.out.output.trans HBW.out.output), by rw [hzn, HZ5.out]; omega, fun j hj => ?_⟩
  exact (hsame j (by omega)).trans ((HKK.out j (by omega)).trans ((HB4.out.block j (by omega)).trans (HBW.out.block j hj)))
set_option linter.unusedVariables false in
set_option linter.unusedSimpArgs false in
set_option maxRecDepth 100000 in
set_option maxHeartbeats 8000000 in
theorem l7Of_two (n t : ByteArray) (p q : Pt) (A1 A2 : Option Addr) (c1 c2 B : Nat) (w : World) (hA : KidsAt w B A1 p.ex.kids) (hA2 : KidsAt w B A2 q.ex.kids) (hc : p.ex.kids.length ≤ c1) (hc2 : q.ex.kids.length ≤ c2) (hB : B ≤ w.heap.size) :
    Calls Tryz.prog 82 #[stV ⟨3, n, t, p.ex, q.ex⟩ A1 A2 c1 c2] w (GivesBare ⟨3, n, p.bare.ex, q.bare.ex⟩ w) := by
  obtain ⟨W3, hW3⟩ : ∃ W3, W3 = ((w.alloc (.cells #[.int .i64 3, .string n, .string t, .int .i64 p.ex.kind, .int .i64 p.ex.n, .string p.ex.s, .slice A1 p.ex.kids.length c1, .int .i64 q.ex.kind, .int .i64 q.ex.n, .string q.ex.s, .slice A2 q.ex.kids.length c2] 35)).alloc (.cells #[.int .i64 0, .string { data := #[] }, .int .i64 0, .int .i64 0, .string { data := #[] }, .slice none 0 0, .int .i64 0, .int .i64 0, .string { data := #[] }, .slice none 0 0] 52)).alloc (.cells #[.int .i64 3, .string n, .int .i64 0, .int .i64 0, .string { data := #[] }, .slice none 0 0, .int .i64 0, .int .i64 0, .string { data := #[] }, .slice none 0 0] 52) := ⟨_, rfl⟩
  obtain ⟨hz3, hB0, hB1, hB2, hbw⟩ := three_boxes w W3 #[.int .i64 3, .string n, .string t, .int .i64 p.ex.kind, .int .i64 p.ex.n, .string p.ex.s, .slice A1 p.ex.kids.length c1, .int .i64 q.ex.kind, .int .i64 q.ex.n, .string q.ex.s, .slice A2 q.ex.kids.length c2] #[.int .i64 0, .string { data := #[] }, .int .i64 0, .int .i64 0, .string { data := #[] }, .slice none 0 0, .int .i64 0, .int .i64 0, .string { data := #[] }, .slice none 0 0] #[.int .i64 3, .string n, .int .i64 0, .int .i64 0, .string { data := #[] }, .slice none 0 0, .int .i64 0, .int .i64 0, .string { data := #[] }, .slice none 0 0] hW3
  have HC := Lib.hid (l4Bare_any p A1 c1 B W3 (hA.keep (hbw.mono hB)) hc (by omega))
  have HA2 := Lib.hid (hA2.keep (hbw.mono hB))
  have H0 := Lib.hid hB0
  have H1 := Lib.hid hB1
  have H2 := Lib.hid hB2
  have HBW := Lib.hid hbw
  clear hB0 hB1 hB2 hbw hA hA2
  unfold stV
  go_enter Tryz.func82, Tryz.ntmps82
  go_wp2_with fail
  rw [← hW3]
  clear hW3
  refine HC.out.mono ?_
  rintro r w4 ⟨A5, c5, rfl, hc5, hK5, hb4⟩
  have hz4 := hb4.size
  have h0 := H0.out.stay (hb4.block _ (by omega))
  have h1 := H1.out.stay (hb4.block _ (by omega))
  have h2 := H2.out.stay (hb4.block _ (by omega))
  have HK5 := Lib.hid hK5
  have HB4 := Lib.hid hb4
  clear HC hK5 hb4 H0 H1 H2
  have g2 := h2.frozen 2
  have g3 := h2.frozen 3
  have g4 := h2.frozen 4
  have g5 := h2.frozen 5
  have o2 := h2.cell 2
  have o3 := h2.cell 3
  have o4 := h2.cell 4
  have o5 := h2.cell 5
  simp only [List.getElem?_toArray, List.getElem?_cons_zero, List.getElem?_cons_succ] at o2 o3 o4 o5
  have h5 := (((h2.set 2 (.int .i64 p.bare.ex.kind)).set 3 (.int .i64 p.bare.ex.n)).set 4 (.string p.bare.ex.s)).set 5 (.slice A5 p.bare.ex.kids.length c5)
  simp only [List.setIfInBounds_toArray, List.set_cons_zero, List.set_cons_succ] at h5
  have hz5 : ((((w4.setCell ⟨(w.heap.size + 1 + 1), 2, none⟩ (.int .i64 p.bare.ex.kind)).setCell ⟨(w.heap.size + 1 + 1), 3, none⟩ (.int .i64 p.bare.ex.n)).setCell ⟨(w.heap.size + 1 + 1), 4, none⟩ (.string p.bare.ex.s)).setCell ⟨(w.heap.size + 1 + 1), 5, none⟩ (.slice A5 p.bare.ex.kids.length c5)).heap.size = w4.heap.size := by simp
  have hk5 : ∀ j, j ≠ w.heap.size + 1 + 1 → ((((w4.setCell ⟨(w.heap.size + 1 + 1), 2, none⟩ (.int .i64 p.bare.ex.kind)).setCell ⟨(w.heap.size + 1 + 1), 3, none⟩ (.int .i64 p.bare.ex.n)).setCell ⟨(w.heap.size + 1 + 1), 4, none⟩ (.string p.bare.ex.s)).setCell ⟨(w.heap.size + 1 + 1), 5, none⟩ (.slice A5 p.bare.ex.kids.length c5)).heap[j]? = w4.heap[j]? := fun j hj => by rw [Below.heap_setCell _ _ _ j hj, Below.heap_setCell _ _ _ j hj, Below.heap_setCell _ _ _ j hj, Below.heap_setCell _ _ _ j hj]
  have ho5 : ((((w4.setCell ⟨(w.heap.size + 1 + 1), 2, none⟩ (.int .i64 p.bare.ex.kind)).setCell ⟨(w.heap.size + 1 + 1), 3, none⟩ (.int .i64 p.bare.ex.n)).setCell ⟨(w.heap.size + 1 + 1), 4, none⟩ (.string p.bare.ex.s)).setCell ⟨(w.heap.size + 1 + 1), 5, none⟩ (.slice A5 p.bare.ex.kids.length c5)).os = w4.os ∧ ((((w4.setCell ⟨(w.heap.size + 1 + 1), 2, none⟩ (.int .i64 p.bare.ex.kind)).setCell ⟨(w.heap.size + 1 + 1), 3, none⟩ (.int .i64 p.bare.ex.n)).setCell ⟨(w.heap.size + 1 + 1), 4, none⟩ (.string p.bare.ex.s)).setCell ⟨(w.heap.size + 1 + 1), 5, none⟩ (.slice A5 p.bare.ex.kids.length c5)).tape = w4.tape ∧ ((((w4.setCell ⟨(w.heap.size + 1 + 1), 2, none⟩ (.int .i64 p.bare.ex.kind)).setCell ⟨(w.heap.size + 1 + 1), 3, none⟩ (.int .i64 p.bare.ex.n)).setCell ⟨(w.heap.size + 1 + 1), 4, none⟩ (.string p.bare.ex.s)).setCell ⟨(w.heap.size + 1 + 1), 5, none⟩ (.slice A5 p.bare.ex.kids.length c5)).output = w4.output := ⟨rfl, rfl, rfl⟩
  have h15 := h1.stay (hk5 _ (by omega))
  have h05 := h0.stay (hk5 _ (by omega))
  have b0 := h05.cell 0
  have b7 := h05.cell 7
  have b8 := h05.cell 8
  have b9 := h05.cell 9
  have b10 := h05.cell 10
  simp only [List.getElem?_toArray, List.getElem?_cons_zero, List.getElem?_cons_succ] at b0 b7 b8 b9 b10
  have HC2 := Lib.hid (l4Bare_any q A2 c2 B ((((w4.setCell ⟨(w.heap.size + 1 + 1), 2, none⟩ (.int .i64 p.bare.ex.kind)).setCell ⟨(w.heap.size + 1 + 1), 3, none⟩ (.int .i64 p.bare.ex.n)).setCell ⟨(w.heap.size + 1 + 1), 4, none⟩ (.string p.bare.ex.s)).setCell ⟨(w.heap.size + 1 + 1), 5, none⟩ (.slice A5 p.bare.ex.kids.length c5)) ((HA2.out.keep (HB4.out.mono (by omega))).keep (below_of (by omega) hz5 hk5 ho5)) hc2 (by omega))
  have HO5 := Lib.hid h05
  have HO15 := Lib.hid h15
  have HO2 := Lib.hid h5
  have HKK := Lib.hid hk5
  have HZ5 := Lib.hid hz5
  have HOS := Lib.hid ho5
  clear h0 h1 h2 h5 h15 h05 hk5 hz5 ho5 HA2
  go_wp2_with fail
  obtain ⟨W5, hW5⟩ : ∃ W5, W5 = ((((w4.setCell ⟨(w.heap.size + 1 + 1), 2, none⟩ (.int .i64 p.bare.ex.kind)).setCell ⟨(w.heap.size + 1 + 1), 3, none⟩ (.int .i64 p.bare.ex.n)).setCell ⟨(w.heap.size + 1 + 1), 4, none⟩ (.string p.bare.ex.s)).setCell ⟨(w.heap.size + 1 + 1), 5, none⟩ (.slice A5 p.bare.ex.kids.length c5)) := ⟨_, rfl⟩
  rw [← hW5] at HC2 HO5 HO15 HO2 HKK HZ5 HOS ⊢
  clear hW5 b0 b7 b8 b9 b10 o2 o3 o4 o5 g2 g3 g4 g5
  refine HC2.out.mono ?_
  rintro r w6 ⟨A6, c6, rfl, hc6, hK6, hb6⟩
  have hz6 := hb6.size
  have hz5 := HZ5.out
  have h0 := HO5.out.stay (hb6.block _ (by omega))
  have h1 := HO15.out.stay (hb6.block _ (by omega))
  have h2 := HO2.out.stay (hb6.block _ (by omega))
  have HK6 := Lib.hid hK6
  have HB6 := Lib.hid hb6
  clear HC2 hK6 hb6 HO5 HO15 HO2
  have g6 := h2.frozen 6
  have g7 := h2.frozen 7
  have g8 := h2.frozen 8
  have g9 := h2.frozen 9
  have o6 := h2.cell 6
  have o7 := h2.cell 7
  have o8 := h2.cell 8
  have o9 := h2.cell 9
  simp only [List.getElem?_toArray, List.getElem?_cons_zero, List.getElem?_cons_succ] at o6 o7 o8 o9
  have h7 := (((h2.set 6 (.int .i64 q.bare.ex.kind)).set 7 (.int .i64 q.bare.ex.n)).set 8 (.string q.bare.ex.s)).set 9 (.slice A6 q.bare.ex.kids.length c6)
  simp only [List.setIfInBounds_toArray, List.set_cons_zero, List.set_cons_succ] at h7
  have hz7 : ((((w6.setCell ⟨(w.heap.size + 1 + 1), 6, none⟩ (.int .i64 q.bare.ex.kind)).setCell ⟨(w.heap.size + 1 + 1), 7, none⟩ (.int .i64 q.bare.ex.n)).setCell ⟨(w.heap.size + 1 + 1), 8, none⟩ (.string q.bare.ex.s)).setCell ⟨(w.heap.size + 1 + 1), 9, none⟩ (.slice A6 q.bare.ex.kids.length c6)).heap.size = w6.heap.size := by simp
  have hk7 : ∀ j, j ≠ w.heap.size + 1 + 1 → ((((w6.setCell ⟨(w.heap.size + 1 + 1), 6, none⟩ (.int .i64 q.bare.ex.kind)).setCell ⟨(w.heap.size + 1 + 1), 7, none⟩ (.int .i64 q.bare.ex.n)).setCell ⟨(w.heap.size + 1 + 1), 8, none⟩ (.string q.bare.ex.s)).setCell ⟨(w.heap.size + 1 + 1), 9, none⟩ (.slice A6 q.bare.ex.kids.length c6)).heap[j]? = w6.heap[j]? := fun j hj => by rw [Below.heap_setCell _ _ _ j hj, Below.heap_setCell _ _ _ j hj, Below.heap_setCell _ _ _ j hj, Below.heap_setCell _ _ _ j hj]
  have h17 := h1.stay (hk7 _ (by omega))
  have y0 := h7.cell 0
  have y1 := h7.cell 1
  have y2 := h7.cell 2
  have y3 := h7.cell 3
  have y4 := h7.cell 4
  have y5 := h7.cell 5
  have y6 := h7.cell 6
  have y7 := h7.cell 7
  have y8 := h7.cell 8
  have y9 := h7.cell 9
  simp only [List.getElem?_toArray, List.getElem?_cons_zero, List.getElem?_cons_succ] at y0 y1 y2 y3 y4 y5 y6 y7 y8 y9
  have x0 := h17.cell 0
  have x1 := h17.cell 1
  have x2 := h17.cell 2
  have x3 := h17.cell 3
  have x4 := h17.cell 4
  have x5 := h17.cell 5
  have x6 := h17.cell 6
  have x7 := h17.cell 7
  have x8 := h17.cell 8
  have x9 := h17.cell 9
  simp only [List.getElem?_toArray, List.getElem?_cons_zero, List.getElem?_cons_succ] at x0 x1 x2 x3 x4 x5 x6 x7 x8 x9
  have f0 := h17.frozen 0
  have f1 := h17.frozen 1
  have f2 := h17.frozen 2
  have f3 := h17.frozen 3
  have f4 := h17.frozen 4
  have f5 := h17.frozen 5
  have f6 := h17.frozen 6
  have f7 := h17.frozen 7
  have f8 := h17.frozen 8
  have f9 := h17.frozen 9
  have H17 := Lib.hid h17
  have HK7 := Lib.hid hk7
  have HZ7 := Lib.hid hz7
  clear h0 h1 h2 h7 h17 hk7 hz7
  go_wp2_with fail
  obtain ⟨wn, hwn⟩ : ∃ wn, wn = ((((((((((((((w6.setCell ⟨(w.heap.size + 1 + 1), 6, none⟩ (.int .i64 q.bare.ex.kind)).setCell ⟨(w.heap.size + 1 + 1), 7, none⟩ (.int .i64 q.bare.ex.n)).setCell ⟨(w.heap.size + 1 + 1), 8, none⟩ (.string q.bare.ex.s)).setCell ⟨(w.heap.size + 1 + 1), 9, none⟩ (.slice A6 q.bare.ex.kids.length c6)).setCell ⟨(w.heap.size + 1), 0, none⟩ (.int .i64 3)).setCell ⟨(w.heap.size + 1), 1, none⟩ (.string n)).setCell ⟨(w.heap.size + 1), 2, none⟩ (.int .i64 p.bare.ex.kind)).setCell ⟨(w.heap.size + 1), 3, none⟩ (.int .i64 p.bare.ex.n)).setCell ⟨(w.heap.size + 1), 4, none⟩ (.string p.bare.ex.s)).setCell ⟨(w.heap.size + 1), 5, none⟩ (.slice A5 p.bare.ex.kids.length c5)).setCell ⟨(w.heap.size + 1), 6, none⟩ (.int .i64 q.bare.ex.kind)).setCell ⟨(w.heap.size + 1), 7, none⟩ (.int .i64 q.bare.ex.n)).setCell ⟨(w.heap.size + 1), 8, none⟩ (.string q.bare.ex.s)).setCell ⟨(w.heap.size + 1), 9, none⟩ (.slice A6 q.bare.ex.kids.length c6)) := ⟨_, rfl⟩
  have hwa : wn = setAllQ (((((w6.setCell ⟨(w.heap.size + 1 + 1), 6, none⟩ (.int .i64 q.bare.ex.kind)).setCell ⟨(w.heap.size + 1 + 1), 7, none⟩ (.int .i64 q.bare.ex.n)).setCell ⟨(w.heap.size + 1 + 1), 8, none⟩ (.string q.bare.ex.s)).setCell ⟨(w.heap.size + 1 + 1), 9, none⟩ (.slice A6 q.bare.ex.kids.length c6))) (w.heap.size + 1) 0 [.int .i64 3, .string n, .int .i64 p.bare.ex.kind, .int .i64 p.bare.ex.n, .string p.bare.ex.s, .slice A5 p.bare.ex.kids.length c5, .int .i64 q.bare.ex.kind, .int .i64 q.bare.ex.n, .string q.bare.ex.s, .slice A6 q.bare.ex.kids.length c6] := by rw [hwn]; rfl
  rw [← hwn]
  clear hwn
  have hBn := setAllQ_blk [.int .i64 3, .string n, .int .i64 p.bare.ex.kind, .int .i64 p.bare.ex.n, .string p.bare.ex.s, .slice A5 p.bare.ex.kids.length c5, .int .i64 q.bare.ex.kind, .int .i64 q.bare.ex.n, .string q.bare.ex.s, .slice A6 q.bare.ex.kids.length c6] 0 _ (((((w6.setCell ⟨(w.heap.size + 1 + 1), 6, none⟩ (.int .i64 q.bare.ex.kind)).setCell ⟨(w.heap.size + 1 + 1), 7, none⟩ (.int .i64 q.bare.ex.n)).setCell ⟨(w.heap.size + 1 + 1), 8, none⟩ (.string q.bare.ex.s)).setCell ⟨(w.heap.size + 1 + 1), 9, none⟩ (.slice A6 q.bare.ex.kids.length c6))) H17.out rfl
  rw [← hwa] at hBn
  have hsame : ∀ j, j ≠ w.heap.size + 1 → wn.heap[j]? = (((((w6.setCell ⟨(w.heap.size + 1 + 1), 6, none⟩ (.int .i64 q.bare.ex.kind)).setCell ⟨(w.heap.size + 1 + 1), 7, none⟩ (.int .i64 q.bare.ex.n)).setCell ⟨(w.heap.size + 1 + 1), 8, none⟩ (.string q.bare.ex.s)).setCell ⟨(w.heap.size + 1 + 1), 9, none⟩ (.slice A6 q.bare.ex.kids.length c6))).heap[j]? := fun j hj => by rw [hwa]; exact setAllQ_other _ _ _ _ hj
  have hzn : wn.heap.size = (((((w6.setCell ⟨(w.heap.size + 1 + 1), 6, none⟩ (.int .i64 q.bare.ex.kind)).setCell ⟨(w.heap.size + 1 + 1), 7, none⟩ (.int .i64 q.bare.ex.n)).setCell ⟨(w.heap.size + 1 + 1), 8, none⟩ (.string q.bare.ex.s)).setCell ⟨(w.heap.size + 1 + 1), 9, none⟩ (.slice A6 q.bare.ex.kids.length c6))).heap.size := by rw [hwa]; exact setAllQ_size _ _ _ _
  have hon := setAllQ_os (w.heap.size + 1) [.int .i64 3, .string n, .int .i64 p.bare.ex.kind, .int .i64 p.bare.ex.n, .string p.bare.ex.s, .slice A5 p.bare.ex.kids.length c5, .int .i64 q.bare.ex.kind, .int .i64 q.bare.ex.n, .string q.bare.ex.s, .slice A6 q.bare.ex.kids.length c6] 0 (((((w6.setCell ⟨(w.heap.size + 1 + 1), 6, none⟩ (.int .i64 q.bare.ex.kind)).setCell ⟨(w.heap.size + 1 + 1), 7, none⟩ (.int .i64 q.bare.ex.n)).setCell ⟨(w.heap.size + 1 + 1), 8, none⟩ (.string q.bare.ex.s)).setCell ⟨(w.heap.size + 1 + 1), 9, none⟩ (.slice A6 q.bare.ex.kids.length c6)))
  rw [← hwa] at hon
  simp only [List.take_zero, List.nil_append] at hBn
  have r0 := hBn.cell 0
  have r1 := hBn.cell 1
  have r2 := hBn.cell 2
  have r3 := hBn.cell 3
  have r4 := hBn.cell 4
  have r5 := hBn.cell 5
  have r6 := hBn.cell 6
  have r7 := hBn.cell 7
  have r8 := hBn.cell 8
  have r9 := hBn.cell 9
  simp only [List.getElem?_toArray, List.getElem?_cons_zero, List.getElem?_cons_succ] at r0 r1 r2 r3 r4 r5 r6 r7 r8 r9
  refine bodyPost_ret (v := .agg #[.int .i64 3, .string n, .int .i64 p.bare.ex.kind, .int .i64 p.bare.ex.n, .string p.bare.ex.s, .slice A5 p.bare.ex.kids.length c5, .int .i64 q.bare.ex.kind, .int .i64 q.bare.ex.n, .string q.bare.ex.s, .slice A6 q.bare.ex.kids.length c6]) (by simp [results, Tryz.results82, go_sem, r0, r1, r2, r3, r4, r5, r6, r7, r8, r9]) rfl ?_
  have hK : ∀ b, w.heap.size + 1 + 1 + 1 ≤ b → wn.heap[b]? = w6.heap[b]? := fun b hb => (hsame b (by omega)).trans (HK7.out b (by omega))
  have hK2 : ∀ b, w.heap.size + 1 + 1 + 1 ≤ b → b < w4.heap.size → wn.heap[b]? = w4.heap[b]? := fun b hb hb2 => (hK b hb).trans ((HB6.out.block b (by omega)).trans (HKK.out b (by omega)))
  refine ⟨A5, A6, c5, c6, rfl, hc5, hc6, HK5.out.keep (fun b h => ⟨by omega, by rw [hzn, HZ7.out]; omega⟩) (fun b h => hK2 b (by omega) h.2), HK6.out.keep (fun b h => ⟨by omega, by rw [hzn, HZ7.out]; exact h.2⟩) (fun b h => hK b (by omega)), ?_⟩
  refine ⟨hon.1.trans (HB6.out.os.trans (HOS.out.1.trans (HB4.out.os.trans HBW.out.os))), hon.2.1.trans (HB6.out.tape.trans (HOS.out.2.1.trans (HB4.out.tape.trans HBW.out.tape))), hon.2.2.trans (HB6.out.output.trans (HOS.out.2.2.trans (HB4.out.output.trans HBW.out.output))), by rw [hzn, HZ7.out]; omega, fun j hj => ?_⟩
  exact (hsame j (by omega)).trans ((HK7.out j (by omega)).trans ((HB6.out.block j (by omega)).trans ((HKK.out j (by omega)).trans ((HB4.out.block j (by omega)).trans (HBW.out.block j hj)))))
end Go.Proofs.YtfknelkbdoiokaaGreatDoor
