/-
  Kids in blocks of a set, and rows of kids.
-/
import Derived.Test.YtaclndbilpaboaaDoorOwnMk
import Derived.Test.YtaclndbilpaboaaDoorSet4
namespace Go.Proofs.YtaclndbilpaboaaDoor
open Go.RowKit

/-- The slice at this address holds these kids, each with its own kids, all in blocks of S. -/
inductive KidsS (w : World) (S : Nat → Prop) : Option Addr → List Ex → Prop
  | nil {A : Option Addr} : KidsS w S A []
  | mk {g off : Nat} {ks : List Ex} (D : Nat → Option Addr) (c : Nat → Nat) (hg : S g) (hb : ∃ cur, Blk w g cur)
      (h0 : ∀ j (h : j < ks.length), w.cell? ⟨g, off + j * 4, none⟩ = some (.int .i64 ks[j].kind))
      (h1 : ∀ j (h : j < ks.length), w.cell? ⟨g, off + j * 4 + 1, none⟩ = some (.int .i64 ks[j].n))
      (h2 : ∀ j (h : j < ks.length), w.cell? ⟨g, off + j * 4 + 2, none⟩ = some (.string ks[j].s))
      (h3 : ∀ j (h : j < ks.length), w.cell? ⟨g, off + j * 4 + 3, none⟩ = some (.slice (D j) ks[j].kids.length (c j)))
      (hc : ∀ j (h : j < ks.length), ks[j].kids.length ≤ c j)
      (hk : ∀ j (h : j < ks.length), KidsS w S (D j) ks[j].kids) : KidsS w S (some ⟨g, off, none⟩) ks
theorem KidsS.keep {w w' : World} {S S' : Nat → Prop} {A : Option Addr} {ks : List Ex} (h : KidsS w S A ks) (hS : ∀ b, S b → S' b) (hb : ∀ b, S b → w'.heap[b]? = w.heap[b]?) : KidsS w' S' A ks := by
  induction h with
  | nil => exact .nil
  | mk D c hg hB h0 h1 h2 h3 hc _ ih =>
    obtain ⟨cur, hcur⟩ := hB
    exact .mk D c (hS _ hg) ⟨cur, (hb _ hg).trans hcur⟩ (fun j h => (cell_same (hb _ hg) _).trans (h0 j h)) (fun j h => (cell_same (hb _ hg) _).trans (h1 j h))
      (fun j h => (cell_same (hb _ hg) _).trans (h2 j h)) (fun j h => (cell_same (hb _ hg) _).trans (h3 j h)) hc ih
theorem KidsS.at_ {w : World} {S : Nat → Prop} {B : Nat} {A : Option Addr} {ks : List Ex} (h : KidsS w S A ks) (hS : ∀ b, S b → b < B) : KidsAt w B A ks := by
  induction h with
  | nil => exact .nil
  | mk D c hg _ h0 h1 h2 h3 hc _ ih => exact .mk D c (hS _ hg) h0 h1 h2 h3 hc ih

/-- A kid that is done: what it is, and where its kids lie. -/
abbrev Kd := Ex × Option Addr × Nat
def kdC (d : Kd) : List Value := kidCells d.1 d.2.1 d.2.2
def rowK (ds : List Kd) : List Value := ds.flatMap kdC
theorem rowK_append (xs ys : List Kd) : rowK (xs ++ ys) = rowK xs ++ rowK ys := by simp [rowK]
theorem rowK_cons (x : Kd) (xs : List Kd) : rowK (x :: xs) = kdC x ++ rowK xs := by simp [rowK]
theorem rowK_one (x : Kd) : rowK [x] = kdC x := by simp [rowK]
theorem kdC_length (x : Kd) : (kdC x).length = 4 := rfl
theorem rowK_get (xs : List Kd) : ∀ (k : Nat) (hk : k < xs.length) (i : Nat), i < 4 → (rowK xs)[k * 4 + i]? = (kdC xs[k])[i]? := by
  induction xs with
  | nil => intro k hk; simp at hk
  | cons x xs ih =>
    intro k hk i hi
    rw [rowK_cons]
    cases k with
    | zero => rw [Nat.zero_mul, Nat.zero_add, List.getElem?_append_left (by rw [kdC_length]; exact hi)]; rfl
    | succ k =>
      rw [List.getElem?_append_right (by rw [kdC_length]; omega), kdC_length, show (k + 1) * 4 + i - 4 = k * 4 + i by omega]
      exact ih k (by simpa using hk) i hi
/-- The kids that are done, as they lie in a row. -/
theorem kidsS_row {w : World} {S : Nat → Prop} {B g n cap : Nat} {ds : List Kd} (h : w.ownsRow B 29 4 (.slice (some ⟨g, 0, none⟩) n cap) n (rowK ds)) (hn : ds.length = n) (hg : S g)
    (hd : ∀ d ∈ ds, d.1.kids.length ≤ d.2.2 ∧ KidsS w S d.2.1 d.1.kids) : KidsS w S (some ⟨g, 0, none⟩) (ds.map (·.1)) := by
  have hblk : ∃ cur, Blk w g cur := by
    rcases h.2 with ⟨h1, _⟩ | ⟨g', cap', cur, h1, _, h3, _⟩
    · cases h1
    · injection h1 with h1
      injection h1 with h1
      injection h1 with h1
      subst h1
      exact ⟨cur, h3⟩
  have cell : ∀ j (hj : j < ds.length) i, i < 4 → w.cell? ⟨g, 0 + j * 4 + i, none⟩ = (kdC ds[j])[i]? := by
    intro j hj i hi
    rw [Nat.zero_add, h.cellAt (j * 4 + i) (by omega)]
    exact rowK_get ds j hj i hi
  refine .mk (fun j => (ds.getD j (Ex.zero, none, 0)).2.1) (fun j => (ds.getD j (Ex.zero, none, 0)).2.2) hg hblk ?_ ?_ ?_ ?_ ?_ ?_ <;> intro j hj <;> rw [List.length_map] at hj <;> have hgd : ds.getD j (Ex.zero, none, 0) = ds[j] := (by simp [List.getD, hj]) <;> simp only [List.getElem_map, hgd]
  · exact cell j hj 0 (by omega)
  · exact cell j hj 1 (by omega)
  · exact cell j hj 2 (by omega)
  · exact cell j hj 3 (by omega)
  · exact (hd _ (List.getElem_mem hj)).1
  · exact (hd _ (List.getElem_mem hj)).2

/-- What is reckoned is handed back; its kids lie in memory that was not there before. -/
def GivesS (e : Ex) (w : World) (r : Ending) (w' : World) : Prop :=
  ∃ A c, r = .returned (.agg #[.int .i64 e.kind, .int .i64 e.n, .string e.s, .slice A e.kids.length c]) ∧ e.kids.length ≤ c ∧ KidsS w' (fun b => w.heap.size ≤ b ∧ b < w'.heap.size) A e.kids ∧ Below w.heap.size w w'
end Go.Proofs.YtaclndbilpaboaaDoor
