/-
  A store of a whole value of four cells, and blocks laid behind it.
-/
import Derived.Test.YtaclndbilpaboaaGreatDoorOwn
import Derived.Test.YtaclndbilpaboaaGreatDoorStrs
namespace Go.Proofs.YtaclndbilpaboaaGreatDoor
open Go.RowKit

theorem cell_drew0 (w : World) (a : Addr) : w.drew.cell? a = w.cell? a := rfl
theorem below_two (w : World) (o p : Obj) : Below w.heap.size w ((w.alloc o).alloc p) := ((Below.refl _ w).alloc (Nat.le_refl _) _).alloc (by simp) _
theorem cell_same {w w' : World} {b : Nat} (h : w'.heap[b]? = w.heap[b]?) (j : Nat) : w'.cell? ⟨b, j, none⟩ = w.cell? ⟨b, j, none⟩ := World.cell?_of_block (a := ⟨b, j, none⟩) h
theorem fro_same {w w' : World} {b : Nat} (h : w'.heap[b]? = w.heap[b]?) (j : Nat) : w'.frozen? ⟨b, j, none⟩ = w.frozen? ⟨b, j, none⟩ := by simp only [World.frozen?, h]
theorem cell_lt0 {w : World} {b j : Nat} {v : Value} (h : w.cell? ⟨b, j, none⟩ = some v) : b < w.heap.size := World.block_lt_of_cell? w _ h
theorem heap_set4 (w5 : World) (b : Nat) (v0 v1 v2 v3 : Value) (k : Nat) (h : k ≠ b) : ((((w5.setCell ⟨b, 0, none⟩ v0).setCell ⟨b, 1, none⟩ v1).setCell ⟨b, 2, none⟩ v2).setCell ⟨b, 3, none⟩ v3).heap[k]? = w5.heap[k]? := by
  rw [Below.heap_setCell _ _ _ k h, Below.heap_setCell _ _ _ k h, Below.heap_setCell _ _ _ k h, Below.heap_setCell _ _ _ k h]
theorem size_set4 (w5 : World) (b : Nat) (v0 v1 v2 v3 : Value) : ((((w5.setCell ⟨b, 0, none⟩ v0).setCell ⟨b, 1, none⟩ v1).setCell ⟨b, 2, none⟩ v2).setCell ⟨b, 3, none⟩ v3).heap.size = w5.heap.size := by simp
theorem kept0 {w5 : World} {b k : Nat} {v0 v1 v2 v3 : Value} (h : k ≠ b) (j : Nat) : ((((w5.setCell ⟨b, 0, none⟩ v0).setCell ⟨b, 1, none⟩ v1).setCell ⟨b, 2, none⟩ v2).setCell ⟨b, 3, none⟩ v3).cell? ⟨k, j, none⟩ = w5.cell? ⟨k, j, none⟩ := cell_same (heap_set4 _ _ _ _ _ _ _ h) j
theorem kept1 {w5 : World} {b k : Nat} {v0 v1 v2 v3 : Value} {o : Obj} (h : k ≠ b) (hl : k < w5.heap.size) (j : Nat) : (((((w5.setCell ⟨b, 0, none⟩ v0).setCell ⟨b, 1, none⟩ v1).setCell ⟨b, 2, none⟩ v2).setCell ⟨b, 3, none⟩ v3).alloc o).cell? ⟨k, j, none⟩ = w5.cell? ⟨k, j, none⟩ :=
  cell_same ((Below.heap_alloc _ _ _ (by rw [size_set4]; exact hl)).trans (heap_set4 _ _ _ _ _ _ _ h)) j
theorem kept2 {w5 : World} {b k : Nat} {v0 v1 v2 v3 : Value} {o p : Obj} (h : k ≠ b) (hl : k < w5.heap.size) (j : Nat) : ((((((w5.setCell ⟨b, 0, none⟩ v0).setCell ⟨b, 1, none⟩ v1).setCell ⟨b, 2, none⟩ v2).setCell ⟨b, 3, none⟩ v3).alloc o).alloc p).cell? ⟨k, j, none⟩ = w5.cell? ⟨k, j, none⟩ :=
  cell_same ((Below.heap_alloc _ _ _ (by rw [World.size_alloc, size_set4]; omega)).trans ((Below.heap_alloc _ _ _ (by rw [size_set4]; exact hl)).trans (heap_set4 _ _ _ _ _ _ _ h))) j
theorem blk_set4 {w5 : World} {b : Nat} {a0 a1 a2 a3 : Value} (v0 v1 v2 v3 : Value) (h : Blk w5 b #[a0, a1, a2, a3]) : Blk ((((w5.setCell ⟨b, 0, none⟩ v0).setCell ⟨b, 1, none⟩ v1).setCell ⟨b, 2, none⟩ v2).setCell ⟨b, 3, none⟩ v3) b #[v0, v1, v2, v3] := (((h.set 0 v0).set 1 v1).set 2 v2).set 3 v3
theorem below_set4 (w5 : World) (b : Nat) (v0 v1 v2 v3 : Value) : ((((w5.setCell ⟨b, 0, none⟩ v0).setCell ⟨b, 1, none⟩ v1).setCell ⟨b, 2, none⟩ v2).setCell ⟨b, 3, none⟩ v3).os = w5.os ∧ ((((w5.setCell ⟨b, 0, none⟩ v0).setCell ⟨b, 1, none⟩ v1).setCell ⟨b, 2, none⟩ v2).setCell ⟨b, 3, none⟩ v3).tape = w5.tape ∧ ((((w5.setCell ⟨b, 0, none⟩ v0).setCell ⟨b, 1, none⟩ v1).setCell ⟨b, 2, none⟩ v2).setCell ⟨b, 3, none⟩ v3).output = w5.output := ⟨rfl, rfl, rfl⟩
/-- What holds where a drawn one has been stored, and lists have been made. -/
theorem sl_of_blk {w : World} {b : Nat} {ss : List ByteArray} (h : w.heap[b]? = some (.cells (ss.map strV).toArray 9)) : SlIs w (some ⟨b, 0, none⟩) (ss.map strV) := by
  refine .inr ⟨b, 0, rfl, (Array.getElem?_eq_some_iff.1 h).1, fun j u hu => ?_⟩
  have hx : w.cell? ⟨b, 0 + j, none⟩ = ((ss.map strV).toArray)[0 + j]? := by simp [World.cell?, h]
  rw [hx, Nat.zero_add, List.getElem?_toArray]
  exact hu
/-- The world wn is w5 with block b turned, and more behind. -/
def Behind5 (b : Nat) (w5 wn : World) : Prop := (∀ k, k < w5.heap.size → k ≠ b → wn.heap[k]? = w5.heap[k]?) ∧ wn.os = w5.os ∧ wn.tape = w5.tape ∧ wn.output = w5.output ∧ w5.heap.size ≤ wn.heap.size
theorem size_one (w : World) (o : Obj) : (w.alloc o).drew.heap.size = w.heap.size + 1 := by simp
theorem size_two (w : World) (o p : Obj) : ((w.alloc o).alloc p).drew.heap.size = w.heap.size + 2 := by simp
theorem behind1 (w5 : World) (b : Nat) (v0 v1 v2 v3 : Value) (o : Obj) : Behind5 b w5 (((((w5.setCell ⟨b, 0, none⟩ v0).setCell ⟨b, 1, none⟩ v1).setCell ⟨b, 2, none⟩ v2).setCell ⟨b, 3, none⟩ v3).alloc o) :=
  ⟨fun k h1 h2 => (Below.heap_alloc _ _ _ (by rw [size_set4]; exact h1)).trans (heap_set4 _ _ _ _ _ _ _ h2), rfl, rfl, rfl, by simp⟩
theorem behind2 (w5 : World) (b : Nat) (v0 v1 v2 v3 : Value) (o p : Obj) : Behind5 b w5 ((((((w5.setCell ⟨b, 0, none⟩ v0).setCell ⟨b, 1, none⟩ v1).setCell ⟨b, 2, none⟩ v2).setCell ⟨b, 3, none⟩ v3).alloc o).alloc p) := by
  have hh := behind1 w5 b v0 v1 v2 v3 o
  generalize ((((w5.setCell ⟨b, 0, none⟩ v0).setCell ⟨b, 1, none⟩ v1).setCell ⟨b, 2, none⟩ v2).setCell ⟨b, 3, none⟩ v3).alloc o = ws at *
  obtain ⟨k1, k2, k3, k4, k5⟩ := hh
  exact ⟨fun k h1 h2 => (Below.heap_alloc _ _ _ (by omega)).trans (k1 k h1 h2), k2, k3, k4, by rw [World.size_alloc]; omega⟩
theorem at1 (w5 : World) (b : Nat) (v0 v1 v2 v3 : Value) (o : Obj) : (((((w5.setCell ⟨b, 0, none⟩ v0).setCell ⟨b, 1, none⟩ v1).setCell ⟨b, 2, none⟩ v2).setCell ⟨b, 3, none⟩ v3).alloc o).heap[w5.heap.size]? = some o := by
  have := World.alloc_heap_new ((((w5.setCell ⟨b, 0, none⟩ v0).setCell ⟨b, 1, none⟩ v1).setCell ⟨b, 2, none⟩ v2).setCell ⟨b, 3, none⟩ v3) o
  rwa [size_set4] at this
theorem at2a (w5 : World) (b : Nat) (v0 v1 v2 v3 : Value) (o p : Obj) : ((((((w5.setCell ⟨b, 0, none⟩ v0).setCell ⟨b, 1, none⟩ v1).setCell ⟨b, 2, none⟩ v2).setCell ⟨b, 3, none⟩ v3).alloc o).alloc p).heap[w5.heap.size]? = some o :=
  (Below.heap_alloc _ _ _ (by rw [World.size_alloc, size_set4]; omega)).trans (at1 w5 b v0 v1 v2 v3 o)
theorem at2b (w5 : World) (b : Nat) (v0 v1 v2 v3 : Value) (o p : Obj) : ((((((w5.setCell ⟨b, 0, none⟩ v0).setCell ⟨b, 1, none⟩ v1).setCell ⟨b, 2, none⟩ v2).setCell ⟨b, 3, none⟩ v3).alloc o).alloc p).heap[w5.heap.size + 1]? = some p := by
  have := World.alloc_heap_new (((((w5.setCell ⟨b, 0, none⟩ v0).setCell ⟨b, 1, none⟩ v1).setCell ⟨b, 2, none⟩ v2).setCell ⟨b, 3, none⟩ v3).alloc o) p
  rwa [World.size_alloc, size_set4] at this
theorem blk1 {w5 : World} {b : Nat} {a0 a1 a2 a3 : Value} (v0 v1 v2 v3 : Value) (o : Obj) (h : Blk w5 b #[a0, a1, a2, a3]) : Blk (((((w5.setCell ⟨b, 0, none⟩ v0).setCell ⟨b, 1, none⟩ v1).setCell ⟨b, 2, none⟩ v2).setCell ⟨b, 3, none⟩ v3).alloc o) b #[v0, v1, v2, v3] :=
  (Below.heap_alloc _ _ _ (by rw [size_set4]; exact h.lt)).trans (blk_set4 v0 v1 v2 v3 h)
theorem blk2 {w5 : World} {b : Nat} {a0 a1 a2 a3 : Value} (v0 v1 v2 v3 : Value) (o p : Obj) (h : Blk w5 b #[a0, a1, a2, a3]) : Blk ((((((w5.setCell ⟨b, 0, none⟩ v0).setCell ⟨b, 1, none⟩ v1).setCell ⟨b, 2, none⟩ v2).setCell ⟨b, 3, none⟩ v3).alloc o).alloc p) b #[v0, v1, v2, v3] :=
  (Below.heap_alloc _ _ _ (by rw [World.size_alloc, size_set4]; have := h.lt; omega)).trans (blk1 v0 v1 v2 v3 o h)
theorem heap_one (w : World) (o : Obj) : (w.alloc o).drew.heap[w.heap.size]? = some o := World.alloc_heap_new w o
theorem heap_second (w : World) (o p : Obj) : ((w.alloc o).alloc p).drew.heap[w.heap.size + 1]? = some p := by
  have := World.alloc_heap_new (w.alloc o) p
  rwa [World.size_alloc] at this
theorem heap_first (w : World) (o p : Obj) : ((w.alloc o).alloc p).drew.heap[w.heap.size]? = some o := (Below.heap_alloc (w.alloc o) p _ (by simp)).trans (World.alloc_heap_new w o)
end Go.Proofs.YtaclndbilpaboaaGreatDoor
