/-
  StmtLaws: these texts one behind the other, as a claim holds at most 60 files.
-/
import Derived.Test.YtabignplhkbcpaaGreatDoorGA
import Derived.Test.YtabignplhkbcpaaGreatDoorGD
import Derived.Test.YtabignplhkbcpaaGreatDoorGE
namespace Go.Proofs.YtabignplhkbcpaaGreatDoor
open Go.RowKit

/-- No text and no list is longer than can be. -/
def St.fits (s : St) : Prop := s.name.size ≤ maxLen ∧ s.typ.size ≤ maxLen ∧ s.e.fits ∧ s.t.fits
def BlkS (w : World) (g : Nat) (cur : Array Value) : Prop := w.heap[g]? = some (.cells cur 36 (0, 0))
theorem BlkS.lt {w : World} {g : Nat} {cur : Array Value} (h : BlkS w g cur) : g < w.heap.size := (Array.getElem?_eq_some_iff.1 h).1
theorem BlkS.cell {w : World} {g : Nat} {cur : Array Value} (h : BlkS w g cur) (i : Nat) : w.cell? ⟨g, i, none⟩ = cur[i]? := by simp [World.cell?, show w.heap[g]? = _ from h]
theorem BlkS.frozen {w : World} {g : Nat} {cur : Array Value} (h : BlkS w g cur) (i : Nat) : w.frozen? ⟨g, i, none⟩ = false := by simp [World.frozen?, show w.heap[g]? = _ from h]
theorem BlkS.set {w : World} {g : Nat} {cur : Array Value} (h : BlkS w g cur) (i : Nat) (v : Value) : BlkS (w.setCell ⟨g, i, none⟩ v) g (cur.setIfInBounds i v) := heap_setCell_same w g i cur _ v h
def setAll (w : World) (g : Nat) : Nat → List Value → World
  | _, [] => w
  | k, v :: vs => setAll (w.setCell ⟨g, k, none⟩ v) g (k + 1) vs
theorem setAll_other (g : Nat) : ∀ (vs : List Value) (k : Nat) (w : World) {b : Nat}, b ≠ g → (setAll w g k vs).heap[b]? = w.heap[b]? := by
  intro vs
  induction vs with
  | nil => intro k w b _; rfl
  | cons v vs ih => intro k w b hb; rw [setAll, ih (k + 1) _ hb]; exact Below.heap_setCell _ _ _ b hb
theorem setAll_size (g : Nat) : ∀ (vs : List Value) (k : Nat) (w : World), (setAll w g k vs).heap.size = w.heap.size := by
  intro vs
  induction vs with
  | nil => intro k w; rfl
  | cons v vs ih => intro k w; rw [setAll, ih]; simp
theorem setAll_os (g : Nat) : ∀ (vs : List Value) (k : Nat) (w : World), (setAll w g k vs).os = w.os ∧ (setAll w g k vs).tape = w.tape ∧ (setAll w g k vs).output = w.output := by
  intro vs
  induction vs with
  | nil => intro k w; exact ⟨rfl, rfl, rfl⟩
  | cons v vs ih => intro k w; rw [setAll]; exact ih (k + 1) _
theorem setAll_blk {g : Nat} : ∀ (vs : List Value) (k : Nat) (cur : Array Value) (w : World), BlkS w g cur → k + vs.length = cur.size → BlkS (setAll w g k vs) g (cur.toList.take k ++ vs).toArray := by
  intro vs
  induction vs with
  | nil =>
    intro k cur w h hl
    rw [setAll, List.append_nil, List.take_of_length_le (by simp at hl ⊢; omega)]
    simpa using h
  | cons v vs ih =>
    intro k cur w h hl
    rw [setAll]
    have h1 := ih (k + 1) _ _ (h.set k v) (by simp at hl ⊢; omega)
    have e : (cur.setIfInBounds k v).toList.take (k + 1) = cur.toList.take k ++ [v] := by
      simp only [List.length_cons] at hl
      rw [Array.toList_setIfInBounds, List.take_succ_eq_append_getElem (by simp; omega), List.take_set_of_le (Nat.le_refl _)]
      simp
    rw [e, List.append_assoc] at h1
    exact h1
theorem BlkS.stay {w w' : World} {g : Nat} {cur : Array Value} (h : BlkS w g cur) (hb : w'.heap[g]? = w.heap[g]?) : BlkS w' g cur := hb.trans h
end Go.Proofs.YtabignplhkbcpaaGreatDoor
