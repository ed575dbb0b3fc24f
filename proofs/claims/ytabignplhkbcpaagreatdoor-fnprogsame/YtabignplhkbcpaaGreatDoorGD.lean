/-
  Own, OwnMk, Set4, KidsU, SameAlone, MapKey, RowP: these texts one behind the other, as a claim holds at most 60 files.
-/
import Derived.Test.YtabignplhkbcpaaGreatDoorGB
import Derived.Test.YtabignplhkbcpaaGreatDoorGC
import Derived.Test.YtabignplhkbcpaaGreatDoorGA
import Derived.LaidEql
import Derived.MapKept
import Derived.WideKeyRuns
import Derived.Laws.AppendOwn
namespace Go.Proofs.YtabignplhkbcpaaGreatDoor
open Go.RowKit

/-- The cells of a kid. -/
structure KidC (w : World) (g off : Nat) (e : Ex) (D : Option Addr) (c : Nat) : Prop where
  c0 : w.cell? ⟨g, off, none⟩ = some (.int .i64 e.kind)
  c1 : w.cell? ⟨g, off + 1, none⟩ = some (.int .i64 e.n)
  c2 : w.cell? ⟨g, off + 2, none⟩ = some (.string e.s)
  c3 : w.cell? ⟨g, off + 3, none⟩ = some (.slice D e.kids.length c)
  hc : e.kids.length ≤ c
def Blk (w : World) (g : Nat) (cur : Array Value) : Prop := w.heap[g]? = some (.cells cur 34 (0, 0))
theorem Blk.lt {w : World} {g : Nat} {cur : Array Value} (h : Blk w g cur) : g < w.heap.size := (Array.getElem?_eq_some_iff.1 h).1
theorem Blk.cell {w : World} {g : Nat} {cur : Array Value} (h : Blk w g cur) (i : Nat) : w.cell? ⟨g, i, none⟩ = cur[i]? := by simp [World.cell?, show w.heap[g]? = _ from h]
theorem Blk.frozen {w : World} {g : Nat} {cur : Array Value} (h : Blk w g cur) (i : Nat) : w.frozen? ⟨g, i, none⟩ = false := by simp [World.frozen?, show w.heap[g]? = _ from h]
theorem Blk.set {w : World} {g : Nat} {cur : Array Value} (h : Blk w g cur) (i : Nat) (v : Value) : Blk (w.setCell ⟨g, i, none⟩ v) g (cur.setIfInBounds i v) := heap_setCell_same w g i cur _ v h

mutual
/-- The kids of e lie at A, in memory of their own, within blocks lo to hi. -/
def OwnE (w : World) : Ex → Nat → Nat → Option Addr → Prop
  | .mk _ _ _ ks, lo, hi, A => (ks = [] ∧ lo ≤ hi) ∨ ∃ g lo' hi', A = some ⟨g, 0, none⟩ ∧ lo ≤ g ∧ g < hi ∧ lo ≤ lo' ∧ hi' ≤ hi ∧ (g < lo' ∨ hi' ≤ g) ∧ (∃ cur, Blk w g cur) ∧ OwnL w ks g 0 lo' hi'
def OwnL (w : World) : List Ex → Nat → Nat → Nat → Nat → Prop
  | [], _, _, lo, hi => lo ≤ hi
  | e :: es, g, off, lo, hi => ∃ D c mid, KidC w g off e D c ∧ OwnE w e lo mid D ∧ OwnL w es g (off + 4) mid hi
end
theorem KidC.keep {w w' : World} {g off : Nat} {e : Ex} {D : Option Addr} {c : Nat} (h : KidC w g off e D c) (hk : ∀ i, off ≤ i → i < off + 4 → w'.cell? ⟨g, i, none⟩ = w.cell? ⟨g, i, none⟩) : KidC w' g off e D c :=
  ⟨(hk _ (by omega) (by omega)).trans h.c0, (hk _ (by omega) (by omega)).trans h.c1, (hk _ (by omega) (by omega)).trans h.c2, (hk _ (by omega) (by omega)).trans h.c3, h.hc⟩

theorem own_le (w : World) (e : Ex) : ∀ lo hi A, OwnE w e lo hi A → lo ≤ hi := by
  intro lo hi A h
  obtain ⟨k, n, s, ks⟩ := e
  rw [OwnE] at h
  rcases h with h | ⟨g, _, _, _, h1, h2, _⟩ <;> omega
theorem ownL_le (w : World) (es : List Ex) : ∀ g off lo hi, OwnL w es g off lo hi → lo ≤ hi := by
  induction es with
  | nil => intro g off lo hi h; rw [OwnL] at h; exact h
  | cons e es ih =>
    intro g off lo hi h
    rw [OwnL] at h
    obtain ⟨D, c, mid, _, h2, h3⟩ := h
    exact Nat.le_trans (own_le w e _ _ _ h2) (ih _ _ _ _ h3)
theorem ownL_keep_of {w w' : World} (es : List Ex) (ih : ∀ e ∈ es, ∀ lo hi A, (∀ k, lo ≤ k → k < hi → w'.heap[k]? = w.heap[k]?) → OwnE w e lo hi A → OwnE w' e lo hi A) :
    ∀ g off lo hi, (∀ i, off ≤ i → i < off + 4 * es.length → w'.cell? ⟨g, i, none⟩ = w.cell? ⟨g, i, none⟩) → (∀ k, lo ≤ k → k < hi → w'.heap[k]? = w.heap[k]?) → OwnL w es g off lo hi → OwnL w' es g off lo hi := by
  induction es with
  | nil => intro g off lo hi _ _ h; rw [OwnL] at h ⊢; exact h
  | cons e es ih2 =>
    intro g off lo hi hc hb h
    rw [OwnL] at h ⊢
    obtain ⟨D, c, mid, h1, h2, h3⟩ := h
    have l1 := own_le w e _ _ _ h2
    have l2 := ownL_le w es _ _ _ _ h3
    simp only [List.length_cons] at hc
    refine ⟨D, c, mid, h1.keep (fun i hi1 hi2 => hc i hi1 (by omega)), ih e (by simp) lo mid D (fun k h1 h2 => hb k h1 (by omega)) h2, ?_⟩
    exact ih2 (fun e he => ih e (by simp [he])) g (off + 4) mid hi (fun i hi1 hi2 => hc i (by omega) (by omega)) (fun k h1 h2 => hb k (by omega) h2) h3
theorem own_keep {w w' : World} (e : Ex) : ∀ lo hi A, (∀ k, lo ≤ k → k < hi → w'.heap[k]? = w.heap[k]?) → OwnE w e lo hi A → OwnE w' e lo hi A := by
  induction e using Ex.ind with
  | h k n s ks ih =>
    intro lo hi A hb h
    rw [OwnE] at h ⊢
    rcases h with h | ⟨g, lo', hi', e, h1, h2, h3, h4, h5, ⟨cur, h6⟩, h7⟩
    · exact .inl h
    · have hg := hb g h1 h2
      refine .inr ⟨g, lo', hi', e, h1, h2, h3, h4, h5, ⟨cur, hg.trans h6⟩, ?_⟩
      exact ownL_keep_of ks ih g 0 lo' hi' (fun i _ _ => World.cell?_of_block (a := ⟨g, i, none⟩) hg) (fun k h1 h2 => hb k (by omega) (by omega)) h7
theorem ownL_keep {w w' : World} {es : List Ex} {g off lo hi : Nat} (hc : ∀ i, off ≤ i → i < off + 4 * es.length → w'.cell? ⟨g, i, none⟩ = w.cell? ⟨g, i, none⟩) (hb : ∀ k, lo ≤ k → k < hi → w'.heap[k]? = w.heap[k]?) (h : OwnL w es g off lo hi) : OwnL w' es g off lo hi :=
  ownL_keep_of es (fun e _ => own_keep e) g off lo hi hc hb h
theorem own_wide {w : World} {e : Ex} {lo hi lo2 hi2 : Nat} {A : Option Addr} (h : OwnE w e lo hi A) (h1 : lo2 ≤ lo) (h2 : hi ≤ hi2) : OwnE w e lo2 hi2 A := by
  obtain ⟨k, n, s, ks⟩ := e
  rw [OwnE] at h ⊢
  rcases h with h | ⟨g, lo', hi', e, q1, q2, q3, q4, q5, q6, q7⟩
  · exact .inl ⟨h.1, by omega⟩
  · exact .inr ⟨g, lo', hi', e, by omega, by omega, by omega, by omega, q5, q6, q7⟩
theorem ownL_wide {w : World} {es : List Ex} : ∀ {g off lo hi hi2 : Nat}, OwnL w es g off lo hi → hi ≤ hi2 → OwnL w es g off lo hi2 := by
  induction es with
  | nil => intro g off lo hi hi2 h h1; rw [OwnL] at h ⊢; omega
  | cons e es ih =>
    intro g off lo hi hi2 h h1
    rw [OwnL] at h ⊢
    obtain ⟨D, c, mid, q1, q2, q3⟩ := h
    exact ⟨D, c, mid, q1, q2, ih q3 h1⟩
theorem ownL_append {w : World} {es fs : List Ex} : ∀ {g off lo mid hi : Nat}, OwnL w es g off lo mid → OwnL w fs g (off + 4 * es.length) mid hi → OwnL w (es ++ fs) g off lo hi := by
  induction es with
  | nil =>
    intro g off lo mid hi h1 h2
    rw [OwnL] at h1
    rw [List.nil_append]
    simp only [List.length_nil, Nat.mul_zero, Nat.add_zero] at h2
    cases fs with
    | nil => rw [OwnL] at h2 ⊢; omega
    | cons f fs =>
      rw [OwnL] at h2 ⊢
      obtain ⟨D, c, m, q1, q2, q3⟩ := h2
      exact ⟨D, c, m, q1, own_wide q2 h1 (Nat.le_refl _), q3⟩
  | cons e es ih =>
    intro g off lo mid hi h1 h2
    rw [OwnL] at h1
    rw [List.cons_append, OwnL]
    obtain ⟨D, c, m, q1, q2, q3⟩ := h1
    refine ⟨D, c, m, q1, q2, ih q3 ?_⟩
    rw [show off + 4 + 4 * es.length = off + 4 * (e :: es).length by simp only [List.length_cons]; omega]
    exact h2
theorem ownL_split {w : World} {es fs : List Ex} : ∀ {g off lo hi : Nat}, OwnL w (es ++ fs) g off lo hi → ∃ mid, OwnL w es g off lo mid ∧ OwnL w fs g (off + 4 * es.length) mid hi := by
  induction es with
  | nil => intro g off lo hi h; exact ⟨lo, by rw [OwnL]; exact Nat.le_refl _, by simpa using h⟩
  | cons e es ih =>
    intro g off lo hi h
    rw [List.cons_append, OwnL] at h
    obtain ⟨D, c, m, q1, q2, q3⟩ := h
    obtain ⟨mid, r1, r2⟩ := ih q3
    refine ⟨mid, by rw [OwnL]; exact ⟨D, c, m, q1, q2, r1⟩, ?_⟩
    rw [show off + 4 * (e :: es).length = off + 4 + 4 * es.length by simp only [List.length_cons]; omega]
    exact r2
theorem ownL_snoc {w : World} {es : List Ex} {e : Ex} {g off lo mid hi : Nat} {D : Option Addr} {c : Nat} (h : OwnL w es g off lo mid) (hk : KidC w g (off + 4 * es.length) e D c) (he : OwnE w e mid hi D) : OwnL w (es ++ [e]) g off lo hi :=
  ownL_append h (by rw [OwnL]; exact ⟨D, c, hi, hk, he, by rw [OwnL]; exact Nat.le_refl _⟩)
theorem own_kids {w : World} (e : Ex) : ∀ lo hi A B, OwnE w e lo hi A → hi ≤ B → KidsAt w B A e.kids := by
  induction e using Ex.ind with
  | h k n s ks ih =>
    intro lo hi A B h hB
    rw [OwnE] at h
    show KidsAt w B A ks
    rcases h with h | ⟨g, lo', hi', e, h1, h2, h3, h4, h5, h6, h7⟩
    · rw [h.1]; exact .nil
    · subst e
      have each : ∀ (es : List Ex) (off lo : Nat), (∀ e ∈ es, e ∈ ks) → OwnL w es g off lo hi' → ∀ j (hj : j < es.length), ∃ D c, KidIs w B g (off + j * 4) es[j] D c := by
        intro es
        induction es with
        | nil => intro off lo _ _ j hj; simp at hj
        | cons x xs ih2 =>
          intro off lo hm hl j hj
          rw [OwnL] at hl
          obtain ⟨D, c, mid, q1, q2, q3⟩ := hl
          have l3 := ownL_le w xs _ _ _ _ q3
          cases j with
          | zero => exact ⟨D, c, by simpa using q1.c0, by simpa using q1.c1, by simpa using q1.c2, by simpa using q1.c3, q1.hc, ih x (hm x (by simp)) lo mid D B q2 (by omega)⟩
          | succ j =>
            obtain ⟨D', c', hx⟩ := ih2 (off + 4) mid (fun e he => hm e (by simp [he])) q3 j (by simpa using hj)
            rw [show off + 4 + j * 4 = off + (j + 1) * 4 by omega] at hx
            exact ⟨D', c', hx⟩
      have := each ks 0 lo' (fun _ h => h) h7
      exact KidsAt.of (by omega) this
theorem own_nil (w : World) (k n : Int) (s : ByteArray) (lo hi : Nat) (A : Option Addr) (h : lo ≤ hi) : OwnE w (.mk k n s []) lo hi A := by
  rw [OwnE]; exact .inl ⟨rfl, h⟩
end Go.Proofs.YtabignplhkbcpaaGreatDoor

namespace Go.Proofs.YtabignplhkbcpaaGreatDoor
open Go.RowKit

/-- The four cells of a kid. -/
def kidCells (e : Ex) (D : Option Addr) (c : Nat) : List Value := [.int .i64 e.kind, .int .i64 e.n, .string e.s, .slice D e.kids.length c]
theorem own_one {w : World} {k n : Int} {s : ByteArray} {x : Ex} {D : Option Addr} {c g lo mid hi : Nat} (hB : Blk w g (kidCells x D c).toArray) (hc : x.kids.length ≤ c) (hO : OwnE w x lo mid D) (hm : mid ≤ g) (hg : g < hi) : OwnE w (.mk k n s [x]) lo hi (some ⟨g, 0, none⟩) := by
  have hl := own_le _ _ _ _ _ hO
  have b0 := hB.cell 0
  have b1 := hB.cell 1
  have b2 := hB.cell 2
  have b3 := hB.cell 3
  rw [OwnE]
  refine .inr ⟨g, lo, mid, rfl, by omega, hg, Nat.le_refl _, by omega, .inr hm, ⟨_, hB⟩, ?_⟩
  rw [OwnL]
  exact ⟨D, c, mid, ⟨b0, b1, b2, b3, hc⟩, hO, by rw [OwnL]; exact Nat.le_refl _⟩
theorem own_two {w : World} {k n : Int} {s : ByteArray} {x y : Ex} {D E : Option Addr} {c d g lo m1 m2 hi : Nat} (hB : Blk w g (kidCells x D c ++ kidCells y E d).toArray) (hc : x.kids.length ≤ c) (hd : y.kids.length ≤ d) (hO : OwnE w x lo m1 D) (hP : OwnE w y m1 m2 E) (hm : m2 ≤ g) (hg : g < hi) : OwnE w (.mk k n s [x, y]) lo hi (some ⟨g, 0, none⟩) := by
  have hl := own_le _ _ _ _ _ hO
  have hl2 := own_le _ _ _ _ _ hP
  have b0 := hB.cell 0
  have b1 := hB.cell 1
  have b2 := hB.cell 2
  have b3 := hB.cell 3
  have b4 := hB.cell 4
  have b5 := hB.cell 5
  have b6 := hB.cell 6
  have b7 := hB.cell 7
  rw [OwnE]
  refine .inr ⟨g, lo, m2, rfl, by omega, hg, Nat.le_refl _, by omega, .inr hm, ⟨_, hB⟩, ?_⟩
  rw [OwnL]
  refine ⟨D, c, m1, ⟨b0, b1, b2, b3, hc⟩, hO, ?_⟩
  rw [OwnL]
  exact ⟨E, d, m2, ⟨b4, b5, b6, b7, hd⟩, hP, by rw [OwnL]; exact Nat.le_refl _⟩
end Go.Proofs.YtabignplhkbcpaaGreatDoor

namespace Go.Proofs.YtabignplhkbcpaaGreatDoor
open Go.RowKit

theorem cell_drew0 (w : World) (a : Addr) : w.drew.cell? a = w.cell? a := rfl
theorem below_two (w : World) (o p : Obj) : Below w.heap.size w ((w.alloc o).alloc p) := ((Below.refl _ w).alloc (Nat.le_refl _) _).alloc (by simp) _
theorem cell_same {w w' : World} {b : Nat} (h : w'.heap[b]? = w.heap[b]?) (j : Nat) : w'.cell? ⟨b, j, none⟩ = w.cell? ⟨b, j, none⟩ := World.cell?_of_block (a := ⟨b, j, none⟩) h
theorem fro_same {w w' : World} {b : Nat} (h : w'.heap[b]? = w.heap[b]?) (j : Nat) : w'.frozen? ⟨b, j, none⟩ = w.frozen? ⟨b, j, none⟩ := by simp only [World.frozen?, h]
theorem cell_lt0 {w : World} {b j : Nat} {v : Value} (h : w.cell? ⟨b, j, none⟩ = some v) : b < w.heap.size := World.block_lt_of_cell? w _ h
theorem heap_set4 (w5 : World) (b : Nat) (v0 v1 v2 v3 : Value) (k : Nat) (h : k ≠ b) : ((((w5.setCell ⟨b, 0, none⟩ v0).setCell ⟨b, 1, none⟩ v1).setCell ⟨b, 2, none⟩ v2).setCell ⟨b, 3, none⟩ v3).heap[k]? = w5.heap[k]? := by
  rw [Below.heap_setCell _ _ _ k h, Below.heap_setCell _ _ _ k h, Below.heap_setCell _ _ _ k h, Below.heap_setCell _ _ _ k h]
theorem size_set4 (w5 : World) (b : Nat) (v0 v1 v2 v3 : Value) : ((((w5.setCell ⟨b, 0, none⟩ v0).setCell ⟨b, 1, none⟩ v1).setCell ⟨b, 2, none⟩ v2).setCell ⟨b, 3, none⟩ v3).heap.size = w5.heap.size := by simp
theorem kept0 {w5 : World} {b k : Nat} {v0 v1 v2 v3 : Value} (h : k ≠ b) (j : Nat) : ((((w5.setCell ⟨b, 0, none⟩ v0).setCell ⟨b, 1, none⟩ v1).setCell ⟨b, 2, none⟩ v2).setCell ⟨b, 3, none⟩ v3).cell? ⟨k, j, none⟩ = w5.cell? ⟨k, j, none⟩ := cell_same (heap_set4 _ _ _ _ _ _ _ h) j
theorem kept1 {w5 : World} {b k : Nat} {v0 v1 v2 v3 : Value} {o : Obj} (h : k ≠ b) (hl : k < w5.heap.size) (j : Nat) : (((((w5.setCell ⟨b, 0, none⟩ v0).setCell ⟨b, 1, none⟩ v1).setCell ⟨b, 2, none⟩ v2).setCell ⟨b, 3, none⟩ v3).alloc o).cell? ⟨k, j, none⟩ = w5.cell? ⟨k, j, none⟩ :=
  cell_same ((Below.heap_alloc _ _ _ (by rw [size_set4]; exact hl)).trans (heap_set4 _ _ _ _ _ _ _ h)) j
theorem kept2 {w5 : World} {b k : Nat} {v0 v1 v2 v3 : Value} {o p : Obj} (h : k ≠ b) (hl : k < w5.heap.size) (j : Nat) : ((((((w5.setCell ⟨b, 0, none⟩ v0).setCell ⟨b, 1, none⟩ v1).setCell ⟨b, 2, none⟩ v2).setCell ⟨b, 3, none⟩ v3).alloc o).alloc p).cell? ⟨k, j, none⟩ = w5.cell? ⟨k, j, none⟩ :=
  cell_same ((Below.heap_alloc _ _ _ (by rw [World.size_alloc, size_set4]; omega)).trans ((Below.heap_alloc _ _ _ (by rw [size_set4]; exact hl)).trans (heap_set4 _ _ _ _ _ _ _ h))) j
theorem blk_set4 {w5 : World} {b : Nat} {a0 a1 a2 a3 : Value} (v0 v1 v2 v3 : Value) (h : Blk w5 b #[a0, a1, a2, a3]) : Blk ((((w5.setCell ⟨b, 0, none⟩ v0).setCell ⟨b, 1, none⟩ v1).setCell ⟨b, 2, none⟩ v2).setCell ⟨b, 3, none⟩ v3) b #[v0, v1, v2, v3] := (((h.set 0 v0).set 1 v1).set 2 v2).set 3 v3
theorem below_set4 (w5 : World) (b : Nat) (v0 v1 v2 v3 : Value) : ((((w5.setCell ⟨b, 0, none⟩ v0).setCell ⟨b, 1, none⟩ v1).setCell ⟨b, 2, none⟩ v2).setCell ⟨b, 3, none⟩ v3).os = w5.os ∧ ((((w5.setCell ⟨b, 0, none⟩ v0).setCell ⟨b, 1, none⟩ v1).setCell ⟨b, 2, none⟩ v2).setCell ⟨b, 3, none⟩ v3).tape = w5.tape ∧ ((((w5.setCell ⟨b, 0, none⟩ v0).setCell ⟨b, 1, none⟩ v1).setCell ⟨b, 2, none⟩ v2).setCell ⟨b, 3, none⟩ v3).output = w5.output := ⟨rfl, rfl, rfl⟩
/-- What holds where a drawn one has been stored, and lists have been made. -/
theorem sl_of_blk {w : World} {b : Nat} {ss : List ByteArray} (h : w.heap[b]? = some (.cells (ss.map strV).toArray 9)) : SlIs w (some ⟨b, 0, none⟩) (ss.map strV) := by
  refine .inr ⟨b, 0, rfl, (Array.getElem?_eq_some_iff.1 h).1, fun j u hu => ?_⟩
  have hx : w.cell? ⟨b, 0 + j, none⟩ = ((ss.map strV).toArray)[0 + j]? := by simp [World.cell?, h]
  rw [hx, Nat.zero_add, List.getElem?_toArray]
  exact hu
/-- The world wn is w5 with block b turned, and more behind. -/
def Behind5 (b : Nat) (w5 wn : World) : Prop := (∀ k, k < w5.heap.size → k ≠ b → wn.heap[k]? = w5.heap[k]?) ∧ wn.os = w5.os ∧ wn.tape = w5.tape ∧ wn.output = w5.output ∧ w5.heap.size ≤ wn.heap.size
theorem size_one (w : World) (o : Obj) : (w.alloc o).drew.heap.size = w.heap.size + 1 := by simp
theorem size_two (w : World) (o p : Obj) : ((w.alloc o).alloc p).drew.heap.size = w.heap.size + 2 := by simp
theorem behind1 (w5 : World) (b : Nat) (v0 v1 v2 v3 : Value) (o : Obj) : Behind5 b w5 (((((w5.setCell ⟨b, 0, none⟩ v0).setCell ⟨b, 1, none⟩ v1).setCell ⟨b, 2, none⟩ v2).setCell ⟨b, 3, none⟩ v3).alloc o) :=
  ⟨fun k h1 h2 => (Below.heap_alloc _ _ _ (by rw [size_set4]; exact h1)).trans (heap_set4 _ _ _ _ _ _ _ h2), rfl, rfl, rfl, by simp⟩
theorem behind2 (w5 : World) (b : Nat) (v0 v1 v2 v3 : Value) (o p : Obj) : Behind5 b w5 ((((((w5.setCell ⟨b, 0, none⟩ v0).setCell ⟨b, 1, none⟩ v1).setCell ⟨b, 2, none⟩ v2).setCell ⟨b, 3, none⟩ v3).alloc o).alloc p) := by
  have hh := behind1 w5 b v0 v1 v2 v3 o
  generalize ((((w5.setCell ⟨b, 0, none⟩ v0).setCell ⟨b, 1, none⟩ v1).setCell ⟨b, 2, none⟩ v2).setCell ⟨b, 3, none⟩ v3).alloc o = ws at *
  obtain ⟨k1, k2, k3, k4, k5⟩ := hh
  exact ⟨fun k h1 h2 => (Below.heap_alloc _ _ _ (by omega)).trans (k1 k h1 h2), k2, k3, k4, by rw [World.size_alloc]; omega⟩
theorem at1 (w5 : World) (b : Nat) (v0 v1 v2 v3 : Value) (o : Obj) : (((((w5.setCell ⟨b, 0, none⟩ v0).setCell ⟨b, 1, none⟩ v1).setCell ⟨b, 2, none⟩ v2).setCell ⟨b, 3, none⟩ v3).alloc o).heap[w5.heap.size]? = some o := by
  have := World.alloc_heap_new ((((w5.setCell ⟨b, 0, none⟩ v0).setCell ⟨b, 1, none⟩ v1).setCell ⟨b, 2, none⟩ v2).setCell ⟨b, 3, none⟩ v3) o
  rwa [size_set4] at this
theorem at2a (w5 : World) (b : Nat) (v0 v1 v2 v3 : Value) (o p : Obj) : ((((((w5.setCell ⟨b, 0, none⟩ v0).setCell ⟨b, 1, none⟩ v1).setCell ⟨b, 2, none⟩ v2).setCell ⟨b, 3, none⟩ v3).alloc o).alloc p).heap[w5.heap.size]? = some o :=
  (Below.heap_alloc _ _ _ (by rw [World.size_alloc, size_set4]; omega)).trans (at1 w5 b v0 v1 v2 v3 o)
theorem at2b (w5 : World) (b : Nat) (v0 v1 v2 v3 : Value) (o p : Obj) : ((((((w5.setCell ⟨b, 0, none⟩ v0).setCell ⟨b, 1, none⟩ v1).setCell ⟨b, 2, none⟩ v2).setCell ⟨b, 3, none⟩ v3).alloc o).alloc p).heap[w5.heap.size + 1]? = some p := by
  have := World.alloc_heap_new (((((w5.setCell ⟨b, 0, none⟩ v0).setCell ⟨b, 1, none⟩ v1).setCell ⟨b, 2, none⟩ v2).setCell ⟨b, 3, none⟩ v3).alloc o) p
  rwa [World.size_alloc, size_set4] at this
theorem blk1 {w5 : World} {b : Nat} {a0 a1 a2 a3 : Value} (v0 v1 v2 v3 : Value) (o : Obj) (h : Blk w5 b #[a0, a1, a2, a3]) : Blk (((((w5.setCell ⟨b, 0, none⟩ v0).setCell ⟨b, 1, none⟩ v1).setCell ⟨b, 2, none⟩ v2).setCell ⟨b, 3, none⟩ v3).alloc o) b #[v0, v1, v2, v3] :=
  (Below.heap_alloc _ _ _ (by rw [size_set4]; exact h.lt)).trans (blk_set4 v0 v1 v2 v3 h)
theorem blk2 {w5 : World} {b : Nat} {a0 a1 a2 a3 : Value} (v0 v1 v2 v3 : Value) (o p : Obj) (h : Blk w5 b #[a0, a1, a2, a3]) : Blk ((((((w5.setCell ⟨b, 0, none⟩ v0).setCell ⟨b, 1, none⟩ v1).setCell ⟨b, 2, none⟩ v2).setCell ⟨b, 3, none⟩ v3).alloc o).alloc p) b #[v0, v1, v2, v3] :=
  (Below.heap_alloc _ _ _ (by rw [World.size_alloc, size_set4]; have := h.lt; omega)).trans (blk1 v0 v1 v2 v3 o h)
theorem heap_one (w : World) (o : Obj) : (w.alloc o).drew.heap[w.heap.size]? = some o := World.alloc_heap_new w o
theorem heap_second (w : World) (o p : Obj) : ((w.alloc o).alloc p).drew.heap[w.heap.size + 1]? = some p := by
  have := World.alloc_heap_new (w.alloc o) p
  rwa [World.size_alloc] at this
theorem heap_first (w : World) (o p : Obj) : ((w.alloc o).alloc p).drew.heap[w.heap.size]? = some o := (Below.heap_alloc (w.alloc o) p _ (by simp)).trans (World.alloc_heap_new w o)
end Go.Proofs.YtabignplhkbcpaaGreatDoor

namespace Go.Proofs.YtabignplhkbcpaaGreatDoor
open Go.RowKit

/-- The slice at this address holds these kids, each with its own kids, all in plain blocks below B. -/
inductive KidsU (w : World) (B : Nat) : Option Addr → List Ex → Prop
  | nil {A : Option Addr} : KidsU w B A []
  | mk {g off : Nat} {ks : List Ex} (D : Nat → Option Addr) (c : Nat → Nat) (hg : g < B) (hb : ∃ cur, Blk w g cur)
      (h0 : ∀ j (h : j < ks.length), KidC w g (off + j * 4) ks[j] (D j) (c j))
      (hk : ∀ j (h : j < ks.length), KidsU w B (D j) ks[j].kids) : KidsU w B (some ⟨g, off, none⟩) ks
theorem KidsU.at_ {w : World} {B : Nat} {A : Option Addr} {ks : List Ex} (h : KidsU w B A ks) {j : Nat} (hj : j < ks.length) :
    ∃ g off D c, A = some ⟨g, off, none⟩ ∧ g < B ∧ (∃ cur, Blk w g cur) ∧ KidC w g (off + j * 4) ks[j] D c ∧ KidsU w B D ks[j].kids := by
  cases h with
  | nil => simp at hj
  | @mk g off _ D c hg hb h0 hk => exact ⟨g, off, D j, c j, rfl, hg, hb, h0 j hj, hk j hj⟩
theorem KidsU.of {w : World} {B : Nat} {g off : Nat} {ks : List Ex} (hg : g < B) (hb : ∃ cur, Blk w g cur) (h : ∀ j (hj : j < ks.length), ∃ D c, KidC w g (off + j * 4) ks[j] D c ∧ KidsU w B D ks[j].kids) : KidsU w B (some ⟨g, off, none⟩) ks := by
  have h' : ∀ j, ∃ x : Option Addr × Nat, ∀ hj : j < ks.length, KidC w g (off + j * 4) ks[j] x.1 x.2 ∧ KidsU w B x.1 ks[j].kids := by
    intro j
    by_cases hj : j < ks.length
    · obtain ⟨D, c, hx⟩ := h j hj
      exact ⟨(D, c), fun _ => hx⟩
    · exact ⟨(none, 0), fun h => absurd h hj⟩
  exact .mk (fun j => (Classical.choose (h' j)).1) (fun j => (Classical.choose (h' j)).2) hg hb (fun j hj => (Classical.choose_spec (h' j) hj).1) (fun j hj => (Classical.choose_spec (h' j) hj).2)
theorem KidsU.kids {w : World} {B : Nat} {A : Option Addr} {ks : List Ex} (h : KidsU w B A ks) : KidsAt w B A ks := by
  induction h with
  | nil => exact .nil
  | mk D c hg _ h0 _ ih => exact .mk D c hg (fun j h => (h0 j h).c0) (fun j h => (h0 j h).c1) (fun j h => (h0 j h).c2) (fun j h => (h0 j h).c3) (fun j h => (h0 j h).hc) ih
theorem KidsU.keep {w w' : World} {B : Nat} {A : Option Addr} {ks : List Ex} (h : KidsU w B A ks) (hb : Below B w w') : KidsU w' B A ks := by
  induction h with
  | nil => exact .nil
  | @mk g off ks D c hg hB h0 _ ih =>
    obtain ⟨cur, hcur⟩ := hB
    exact .mk D c hg ⟨cur, (hb.block g hg).trans hcur⟩ (fun j h => (h0 j h).keep (fun i _ _ => hb.cell (p := ⟨g, i, none⟩) hg)) ih
theorem KidsU.wide {w : World} {B B' : Nat} {A : Option Addr} {ks : List Ex} (h : KidsU w B A ks) (hb : B ≤ B') : KidsU w B' A ks := by
  induction h with
  | nil => exact .nil
  | mk D c hg hB h0 _ ih => exact .mk D c (Nat.lt_of_lt_of_le hg hb) hB h0 ih
theorem KidsU.lt {w : World} {B : Nat} {A : Option Addr} {ks : List Ex} (h : KidsU w B A ks) (hk : 0 < ks.length) : ∃ g off, A = some ⟨g, off, none⟩ ∧ g < B ∧ ∃ cur, Blk w g cur := by
  obtain ⟨g, off, D, c, e, hg, hb, _⟩ := h.at_ hk
  exact ⟨g, off, e, hg, hb⟩
/-- What lies there is one. -/
theorem KidsU.one {w : World} {B : Nat} {A : Option Addr} {ks : List Ex} (h : KidsU w B A ks) : ∀ {ks' : List Ex}, KidsU w B A ks' → ks.length = ks'.length → ks = ks' := by
  induction h with
  | nil => intro ks' _ hl; exact (List.eq_nil_of_length_eq_zero (by simpa using hl.symm)).symm
  | @mk g off ks D c hg hB h0 hk ih =>
    intro ks' h' hl
    refine List.ext_getElem hl (fun j h1 h2 => ?_)
    obtain ⟨g', off', D', c', e, _, _, q, r⟩ := h'.at_ h2
    injection e with e
    injection e with e1 e2
    subst e1 e2
    have q0 := h0 j h1
    have e0 := q0.c0.symm.trans q.c0
    have e1 := q0.c1.symm.trans q.c1
    have e2 := q0.c2.symm.trans q.c2
    have e3 := q0.c3.symm.trans q.c3
    simp only [Option.some.injEq, Value.int.injEq, true_and, Value.string.injEq, Value.slice.injEq] at e0 e1 e2 e3
    obtain ⟨e3, e4, _⟩ := e3
    rw [← e3] at r
    have e5 := ih j h1 r e4
    exact Alone2.kids ⟨e0, e1, e2, e4⟩ e5
theorem own_kidsU {w : World} (e : Ex) : ∀ lo hi A B, OwnE w e lo hi A → hi ≤ B → KidsU w B A e.kids := by
  induction e using Ex.ind with
  | h k n s ks ih =>
    intro lo hi A B h hB
    rw [OwnE] at h
    show KidsU w B A ks
    rcases h with h | ⟨g, lo', hi', e, h1, h2, h3, h4, h5, h6, h7⟩
    · rw [h.1]; exact .nil
    · subst e
      have each : ∀ (es : List Ex) (off lo : Nat), (∀ e ∈ es, e ∈ ks) → OwnL w es g off lo hi' → ∀ j (hj : j < es.length), ∃ D c, KidC w g (off + j * 4) es[j] D c ∧ KidsU w B D es[j].kids := by
        intro es
        induction es with
        | nil => intro off lo _ _ j hj; simp at hj
        | cons x xs ih2 =>
          intro off lo hm hl j hj
          rw [OwnL] at hl
          obtain ⟨D, c, mid, q1, q2, q3⟩ := hl
          have l3 := ownL_le w xs _ _ _ _ q3
          cases j with
          | zero => exact ⟨D, c, by simpa using q1, ih x (hm x (by simp)) lo mid D B q2 (by omega)⟩
          | succ j =>
            obtain ⟨D', c', hx⟩ := ih2 (off + 4) mid (fun e he => hm e (by simp [he])) q3 j (by simpa using hj)
            rw [show off + 4 + j * 4 = off + (j + 1) * 4 by omega] at hx
            exact ⟨D', c', hx⟩
      have := each ks 0 lo' (fun _ h => h) h7
      exact KidsU.of (by omega) h6 this
end Go.Proofs.YtabignplhkbcpaaGreatDoor

namespace Go.Proofs.YtabignplhkbcpaaGreatDoor
open Go.RowKit

def aloneB (k n : Int) (s : ByteArray) (l : Nat) (k' n' : Int) (s' : ByteArray) (l' : Nat) : Bool := decide (k = k') && (decide (n = n') && (decide (s = s') && decide (l = l')))
theorem aloneB_iff (x y : Ex) : aloneB x.kind x.n x.s x.kids.length y.kind y.n y.s y.kids.length = true ↔ Alone2 x y := by
  simp only [aloneB, Alone2, Bool.and_eq_true, decide_eq_true_eq]
theorem lst_eq {s t : ByteArray} (h : s = t) : (s.toList == t.toList) = true := by rw [h]; simp
theorem lst_ne {s t : ByteArray} (h : ¬ s = t) : (s.toList == t.toList) = false := by
  cases hb : s.toList == t.toList
  · rfl
  · exfalso
    apply h
    have h1 : s.toList = t.toList := by simpa using hb
    rw [ByteArray.toList_eq, ByteArray.toList_eq] at h1
    exact ByteArray.ext (Array.toList_inj.1 h1)

set_option maxRecDepth 100000 in
set_option maxHeartbeats 2000000 in
theorem sameAlone_any (k n : Int) (s : ByteArray) (A : Option Addr) (l c : Nat) (k' n' : Int) (s' : ByteArray) (A' : Option Addr) (l' c' : Nat) (w : World) :
    Calls Tryz.prog 80 #[.agg #[.int .i64 k, .int .i64 n, .string s, .slice A l c], .agg #[.int .i64 k', .int .i64 n', .string s', .slice A' l' c']] w fun e w' => e = .returned (.bool (aloneB k n s l k' n' s' l')) ∧ Below w.heap.size w w' := by
  have hb0 : Below w.heap.size w ((w.alloc (.cells #[.int .i64 k, .int .i64 n, .string s, .slice A l c] 34)).alloc (.cells #[.int .i64 k', .int .i64 n', .string s', .slice A' l' c'] 34)) := ((Below.refl _ w).alloc (Nat.le_refl _) _).alloc (by simp) _
  by_cases h1 : k = k'
  · subst h1
    have q1 : (k == k) = true := by simp
    by_cases h2 : n = n'
    · subst h2
      have q2 : (n == n) = true := by simp
      by_cases h3 : s = s'
      · subst h3
        have q3 : (s.toList == s.toList) = true := by simp
        by_cases h4 : l = l'
        · subst h4
          have q4 : ((l : Int) == (l : Int)) = true := by simp
          go_enter Tryz.func80, Tryz.ntmps80
          go_wp2_with fail
          go_ret
          exact ⟨ret_bool (by simp [aloneB]), hb0⟩
        · have q4 : ((l : Int) == (l' : Int)) = false := by rw [beq_eq_false_iff_ne]; omega
          have H4 := Lib.hid h4
          clear h4
          go_enter Tryz.func80, Tryz.ntmps80
          go_wp2_with fail
          go_ret
          exact ⟨ret_bool (by simp [aloneB, H4.out]), hb0⟩
      · have q3 := lst_ne h3
        have H3 := Lib.hid h3
        clear h3
        go_enter Tryz.func80, Tryz.ntmps80
        go_wp2_with fail
        go_ret
        exact ⟨ret_bool (by simp [aloneB, H3.out]), hb0⟩
    · have q2 : (n == n') = false := by rw [beq_eq_false_iff_ne]; exact h2
      have H2 := Lib.hid h2
      clear h2
      go_enter Tryz.func80, Tryz.ntmps80
      go_wp2_with fail
      go_ret
      exact ⟨ret_bool (by simp [aloneB, H2.out]), hb0⟩
  · have q1 : (k == k') = false := by rw [beq_eq_false_iff_ne]; exact h1
    have H1 := Lib.hid h1
    clear h1
    go_enter Tryz.func80, Tryz.ntmps80
    go_wp2_with fail
    go_ret
    exact ⟨ret_bool (by simp [aloneB, H1.out]), hb0⟩
theorem cell_new1 (w : World) (cs : Array Value) (t : TypeId) (j : Nat) (v : Value) (h : cs[j]? = some v) : (w.alloc (.cells cs t)).cell? ⟨w.heap.size, j, none⟩ = some v := by
  have h0 : (w.alloc (.cells cs t)).heap[w.heap.size]? = some (.cells cs t) := World.alloc_heap_new w _
  simp only [World.cell?, h0]
  exact h
theorem cell_new2a (w : World) (cs ds : Array Value) (t u : TypeId) (j : Nat) (v : Value) (h : cs[j]? = some v) : ((w.alloc (.cells cs t)).alloc (.cells ds u)).cell? ⟨w.heap.size, j, none⟩ = some v :=
  (World.cell?_of_block (a := ⟨w.heap.size, j, none⟩) (Below.heap_alloc _ _ _ (by simp))).trans (cell_new1 w cs t j v h)
theorem cell_new2b (w : World) (cs ds : Array Value) (t u : TypeId) (j : Nat) (v : Value) (h : ds[j]? = some v) : ((w.alloc (.cells cs t)).alloc (.cells ds u)).cell? ⟨w.heap.size + 1, j, none⟩ = some v := by
  have := cell_new1 (w.alloc (.cells cs t)) ds u j v h
  rwa [World.size_alloc] at this
theorem len_ne {xs ys : List Ex} (h : ¬ xs.length = ys.length) : xs ≠ ys := fun e => h (by rw [e])
set_option maxRecDepth 100000 in
set_option maxHeartbeats 4000000 in
theorem specSame_any (e : Ex) : ∀ (e' : Ex) (A A' : Option Addr) (c c' B : Nat) (w : World), KidsAt w B A e.kids → KidsAt w B A' e'.kids → e.kids.length ≤ c → e'.kids.length ≤ c' → B ≤ w.heap.size → e.wt ≤ 2 ^ 40 →
    Calls Tryz.prog 58 #[.agg #[.int .i64 e.kind, .int .i64 e.n, .string e.s, .slice A e.kids.length c], .agg #[.int .i64 e'.kind, .int .i64 e'.n, .string e'.s, .slice A' e'.kids.length c']] w fun r w' => r = .returned (.bool (sameE e e')) ∧ Below w.heap.size w w' := by
  induction e using Ex.ind with
  | h k n s ks ih =>
    intro e' A A' c c' B w hA hA' hc hc' hB hw
    obtain ⟨k', n', s', ks'⟩ := e'
    simp only [Ex.kind, Ex.n, Ex.s, Ex.kids, Ex.wt] at hA hA' hc hc' hw ⊢
    have hlw := Ex.wts_length ks
    have hl : ks.length ≤ 2 ^ 40 := by omega
    have HA := Lib.hid hA
    have HA' := Lib.hid hA'
    have HI := Lib.hid ih
    have HWT := Lib.hid (show Ex.wts ks ≤ 2 ^ 40 by omega)
    clear hA hA' ih hw hlw
    have hb0 : Below w.heap.size w ((w.alloc (.cells #[.int .i64 k, .int .i64 n, .string s, .slice A ks.length c] 34)).alloc (.cells #[.int .i64 k', .int .i64 n', .string s', .slice A' ks'.length c'] 34)) := ((Below.refl _ w).alloc (Nat.le_refl _) _).alloc (by simp) _
    by_cases h1 : k = k'
    case neg =>
      have q1 : (k != k') = true := by simp [h1]
      have h1N := Lib.hid h1
      clear h1
      go_enter Tryz.func58, Tryz.ntmps58
      go_wp2_with fail
      go_ret
      exact ⟨ret_bool (by rw [sameE_ne _ _ (fun e => by injection e with e1 e2 e3 e4; exact h1N.out e1)]), hb0⟩

    subst h1
    have q1 : (k != k) = false := by simp
    by_cases h2 : n = n'
    case neg =>
      have q2 : (n != n') = true := by simp [h2]
      have h2N := Lib.hid h2
      clear h2
      go_enter Tryz.func58, Tryz.ntmps58
      go_wp2_with fail
      go_ret
      exact ⟨ret_bool (by rw [sameE_ne _ _ (fun e => by injection e with e1 e2 e3 e4; exact h2N.out e2)]), hb0⟩

    subst h2
    have q2 : (n != n) = false := by simp
    by_cases h3 : s = s'
    case neg =>
      have q3 : (!s.toList == s'.toList) = true := by rw [lst_ne h3]; rfl
      have h3N := Lib.hid h3
      clear h3
      go_enter Tryz.func58, Tryz.ntmps58
      go_wp2_with fail
      go_ret
      exact ⟨ret_bool (by rw [sameE_ne _ _ (fun e => by injection e with e1 e2 e3 e4; exact h3N.out e3)]), hb0⟩

    subst h3
    have q3 : (!s.toList == s.toList) = false := by simp
    by_cases h4 : ks.length = ks'.length
    case neg =>
      have q4 : ((ks.length : Int) != (ks'.length : Int)) = true := by rw [bne_iff_ne]; omega
      have h4N := Lib.hid h4
      clear h4
      go_enter Tryz.func58, Tryz.ntmps58
      go_wp2_with fail
      go_ret
      exact ⟨ret_bool (by rw [sameE_ne _ _ (fun e => by injection e with e1 e2 e3 e4; exact len_ne h4N.out e4)]), hb0⟩

    have q4 : ((ks.length : Int) != (ks'.length : Int)) = false := by rw [bne_eq_false_iff_eq]; omega
    have HL := Lib.hid h4
    have hl1 : ks.length ≤ ks'.length := by omega
    have hl2 : ks'.length ≤ ks.length := by omega
    clear h4
    obtain ⟨W0, hW0⟩ : ∃ W0, W0 = ((w.alloc (.cells #[.int .i64 k, .int .i64 n, .string s, .slice A ks.length c] 34)).alloc (.cells #[.int .i64 k, .int .i64 n, .string s, .slice A' ks'.length c'] 34)) := ⟨_, rfl⟩
    rw [← hW0] at hb0
    have hs0 : w.heap.size + 1 < W0.heap.size := by rw [hW0]; simp
    have a3 : W0.cell? ⟨w.heap.size, 3, none⟩ = some (.slice A ks.length c) := by rw [hW0]; exact cell_new2a w _ _ _ _ 3 _ rfl
    have b3 : W0.cell? ⟨w.heap.size + 1, 3, none⟩ = some (.slice A' ks'.length c') := by rw [hW0]; exact cell_new2b w _ _ _ _ 3 _ rfl
    go_enter Tryz.func58, Tryz.ntmps58
    go_wp2_with fail
    rw [← hW0]
    clear hW0
    go_loopw [5] (fun i wr => ∃ j : Nat, j ≤ ks.length ∧ i = .int .i64 j ∧ ks.take j = ks'.take j ∧ Below W0.heap.size W0 wr) (fun i _ => ks.length - (intOf i).toNat)
    case atStart => exact ⟨0, Nat.zero_le _, rfl, by simp, Below.refl _ _⟩
    case round =>
      obtain ⟨j, hj, rfl, htk, hBw⟩ := hrel
      have HTK := Lib.hid htk
      clear htk
      have hBB := hb0.trans (hBw.mono hb0.size)
      have a3r := (hBw.cell (p := ⟨w.heap.size, 3, none⟩) (by show w.heap.size < _; omega)).trans a3
      have b3r := (hBw.cell (p := ⟨w.heap.size + 1, 3, none⟩) (by show w.heap.size + 1 < _; omega)).trans b3
      clear a3 b3
      by_cases hlt : j < ks.length
      · have hlt' : j < ks'.length := by omega
        obtain ⟨g, off, D, m1, eA, hg, kid⟩ := (HA.out.keep (hBB.mono hB)).at_ hlt
        obtain ⟨g', off', D', m1', eA', hg', kid'⟩ := (HA'.out.keep (hBB.mono hB)).at_ hlt'
        subst eA eA'
        have hkb : ks[j].wt + 1 ≤ Ex.wts ks := Ex.wt_mem (List.getElem_mem _)
        have HC := Lib.hid (fun (V : World) (hV : Below wr.heap.size wr V) => HI.out ks[j] (List.getElem_mem hlt) ks'[j] D D' m1 m1' B V (kid.hk.keep (hV.mono (Nat.le_trans hB hBB.size))) (kid'.hk.keep (hV.mono (Nat.le_trans hB hBB.size))) kid.hc kid'.hc (Nat.le_trans (Nat.le_trans hB hBB.size) hV.size) (by have := HWT.out; omega))
        have HT1 := Lib.hid (List.take_succ_eq_append_getElem hlt)
        have HT2 := Lib.hid (List.take_succ_eq_append_getElem hlt')
        have HG := Lib.hid (show ks = ks' → ks[j] = ks'[j] from fun e => by subst e; rfl)
        generalize ks[j] = x at *
        generalize ks'[j] = y at *
        obtain ⟨xk, xn, xs, xks⟩ := x
        obtain ⟨yk, yn, ys, yks⟩ := y
        obtain ⟨c0, c1, c2, c3, hcc, hkk⟩ := kid
        obtain ⟨b0, b1, b2, b3, hbb, hkk'⟩ := kid'
        simp only [Ex.kind, Ex.n, Ex.s, Ex.kids] at c0 c1 c2 c3 hcc b0 b1 b2 b3 hbb HC
        have hgl : g < wr.heap.size := Nat.lt_of_lt_of_le hg (Nat.le_trans hB hBB.size)
        have hgl' : g' < wr.heap.size := Nat.lt_of_lt_of_le hg' (Nat.le_trans hB hBB.size)
        have hwl : w.heap.size < wr.heap.size := by have := hBw.size; omega
        have hwl' : w.heap.size + 1 < wr.heap.size := by have := hBw.size; omega
        have hx : (j : Int) < (ks.length : Int) := by omega
        have hx' : (j : Int) < (ks'.length : Int) := by omega
        clear hkk hkk' hkb
        obtain ⟨R, hR⟩ : ∃ R, R = sameE (.mk xk xn xs xks) (.mk yk yn ys yks) := ⟨_, rfl⟩
        rw [← hR] at HC
        have HR := Lib.hid hR
        clear hR
        go_wp2_with fail
        go_region_held3 (fun w' => w'.cell? ⟨w.heap.size, 3, none⟩ = some (.slice (some ⟨g, off, none⟩) ks.length c) ∧ w'.cell? ⟨w.heap.size + 1, 3, none⟩ = some (.slice (some ⟨g', off', none⟩) ks'.length c') ∧ w'.cell? ⟨g, off + j * 4, none⟩ = some (.int .i64 xk) ∧ w'.cell? ⟨g, off + j * 4 + 1, none⟩ = some (.int .i64 xn) ∧ w'.cell? ⟨g, off + j * 4 + 2, none⟩ = some (.string xs) ∧ w'.cell? ⟨g, off + j * 4 + 3, none⟩ = some (.slice D xks.length m1) ∧ w'.cell? ⟨g', off' + j * 4, none⟩ = some (.int .i64 yk) ∧ w'.cell? ⟨g', off' + j * 4 + 1, none⟩ = some (.int .i64 yn) ∧ w'.cell? ⟨g', off' + j * 4 + 2, none⟩ = some (.string ys) ∧ w'.cell? ⟨g', off' + j * 4 + 3, none⟩ = some (.slice D' yks.length m1') ∧ Below wr.heap.size wr w')
          (first | exact ⟨a3r, b3r, c0, c1, c2, c3, b0, b1, b2, b3, (Below.refl _ wr).drew⟩ | exact ⟨(hb2.cell (p := ⟨w.heap.size, 3, none⟩) hwl).trans a3r, (hb2.cell (p := ⟨w.heap.size + 1, 3, none⟩) hwl').trans b3r, (hb2.cell (p := ⟨g, off + j * 4, none⟩) hgl).trans c0, (hb2.cell (p := ⟨g, off + j * 4 + 1, none⟩) hgl).trans c1, (hb2.cell (p := ⟨g, off + j * 4 + 2, none⟩) hgl).trans c2, (hb2.cell (p := ⟨g, off + j * 4 + 3, none⟩) hgl).trans c3, (hb2.cell (p := ⟨g', off' + j * 4, none⟩) hgl').trans b0, (hb2.cell (p := ⟨g', off' + j * 4 + 1, none⟩) hgl').trans b1, (hb2.cell (p := ⟨g', off' + j * 4 + 2, none⟩) hgl').trans b2, (hb2.cell (p := ⟨g', off' + j * 4 + 3, none⟩) hgl').trans b3, hb2⟩)
          (first | (go_at_call 58; refine (HC.out _ (Below.refl _ wr).drew).mono ?_; rintro e w2 ⟨rfl, hb2'⟩; have hb2 : Below wr.heap.size wr w2 := (Below.refl _ wr).drew.trans hb2'))
        rename_i hh
        cases R with
        | true =>
          go_wp2_with fail
          go_roundw
          case rel => exact ⟨j + 1, by omega, by go_num, by rw [HT1.out, HT2.out, HTK.out, (sameE_iff _ _).1 HR.out.symm], hBw.trans (hb2.mono hBw.size)⟩
          case measure => simp [intOf]; omega
        | false =>
          go_wp2_with fail
          go_ret
          exact ⟨ret_bool (by rw [sameE_ne _ _ (fun e => by injection e with e1 e2 e3 e4; have h5 := HG.out e4; rw [← sameE_iff, ← HR.out] at h5; cases h5)]), hBB.trans (hb2.mono hBB.size)⟩
      · go_wp2_with fail
        go_ret
        exact ⟨ret_bool (by rw [sameE_eq _ _ (by have h5 := HTK.out; rw [List.take_of_length_le (by omega), List.take_of_length_le (by omega)] at h5; rw [h5])]), hBB⟩
end Go.Proofs.YtabignplhkbcpaaGreatDoor

namespace Go.Proofs.YtabignplhkbcpaaGreatDoor
open Go.RowKit

def kv (p q : Addr) (n : Nat) : Value := .agg #[.pointer (some p), .pointer (some q), .int .i64 (n : Int)]
/-- It lies in a plain block. -/
def PB (w : World) (p : Addr) : Prop := ∃ cur t, w.heap[p.block]? = some (.cells cur t (0, 0))
theorem kvInfo : (Tryz.prog.info? 34).map (·.size) = some 4 := by kernel_rfl
theorem run_sameB {w : World} {p q : Addr} (hp : PB w p) (hq : PB w q) : (sameAddr p q).run Tryz.prog w = .ok (decide (p = q)) w := by
  by_cases h : p = q
  · subst h; rw [run_sameAddr_same]; simp
  · obtain ⟨c1, t1, h1⟩ := hp
    obtain ⟨c2, t2, h2⟩ := hq
    rw [run_sameAddr_other w h h1 h2]; simp [h]
theorem run_ptrEq {w : World} {p q : Addr} (hp : PB w p) (hq : PB w q) (d : Nat) : (Op.equalIn (d + 1) 144 (.pointer (some p)) (.pointer (some q))).run Tryz.prog w = .ok (decide (p = q)) w := by
  obtain ⟨i, hi, hs⟩ := Option.map_eq_some_iff.1 kvInfo
  simp [Op.equalIn, run_underlying Tryz.underlying144, sizeOf, typeInfo, hi, hs, run_sameB hp hq]
theorem run_intEq {w : World} {a b : Int} (d : Nat) : (Op.equalIn (d + 1) 3 (.int .i64 a) (.int .i64 b)).run Tryz.prog w = .ok (decide (a = b)) w := by
  simp [Op.equalIn, run_underlying Tryz.underlying3]
  rw [Bool.eq_iff_iff]; simp
theorem run_part0 (w : World) (p q : Addr) (n : Nat) : (part 144 #[.pointer (some p), .pointer (some q), .int .i64 (n : Int)] 0).run Tryz.prog w = .ok (.pointer (some p)) w := by kernel_rfl
theorem run_part1 (w : World) (p q : Addr) (n : Nat) : (part 144 #[.pointer (some p), .pointer (some q), .int .i64 (n : Int)] 1).run Tryz.prog w = .ok (.pointer (some q)) w := by kernel_rfl
theorem run_part2 (w : World) (p q : Addr) (n : Nat) : (part 3 #[.pointer (some p), .pointer (some q), .int .i64 (n : Int)] 2).run Tryz.prog w = .ok (.int .i64 (n : Int)) w := by kernel_rfl
theorem run_kvEqIn {w : World} {p q p' q' : Addr} {n n' : Nat} (hp : PB w p) (hq : PB w q) (hp' : PB w p') (hq' : PB w q') (d : Nat) :
    (Op.equalIn (d + 2) 146 (kv p q n) (kv p' q' n')).run Tryz.prog w = .ok (decide (p = p') && (decide (q = q') && decide (n = n'))) w := by
  have e1 := run_ptrEq hp hp' d
  have e2 := run_ptrEq hq hq' d
  have e3 := run_intEq (w := w) (a := n) (b := n') d
  unfold kv
  rw [Op.equalIn]
  simp [run_underlying Tryz.underlying146, run_part0, run_part1, run_part2, e1, e2, e3]
  by_cases h1 : p = p'
  · by_cases h2 : q = q'
    · by_cases h3 : n = n'
      · simp [h1, h2, h3]
      · simp [h1, h2, h3, show ¬ ((n : Int) = (n' : Int)) by omega]
    · simp [h1, h2]
  · simp [h1]
theorem run_kvEq {w : World} {p q p' q' : Addr} {n n' : Nat} (hp : PB w p) (hq : PB w q) (hp' : PB w p') (hq' : PB w q') :
    (Op.equal 146 (kv p q n) (kv p' q' n')).run Tryz.prog w = .ok (decide (p = p') && (decide (q = q') && decide (n = n'))) w := by
  unfold Op.equal Op.maxDepth
  exact run_kvEqIn hp hq hp' hq' 9998
/-- An entry as we lay them. -/
def KE (w : World) (e : MapEntry) : Prop := ∃ p q n, e.key = kv p q n ∧ e.val = .bool true ∧ PB w p ∧ PB w q
theorem find_kv {w : World} {p q : Addr} {n : Nat} (hp : PB w p) (hq : PB w q) : ∀ (es : List MapEntry) (i : Nat), (∀ e ∈ es, KE w e) →
    (Instr.findAsking 146 (kv p q n) es i).run Tryz.prog w = .ok none w ∨ ∃ j e, (Instr.findAsking 146 (kv p q n) es i).run Tryz.prog w = .ok (some (j, .bool true)) w ∧ e ∈ es ∧ e.key = kv p q n
  | [], i, _ => .inl (by simp [Instr.findAsking])
  | e :: es, i, hall => by
    obtain ⟨p', q', n', h1, h2, h3, h4⟩ := hall e (by simp)
    have hr := run_kvEq (n := n) (n' := n') hp hq h3 h4
    rw [← h1] at hr
    by_cases hk : p = p' ∧ q = q' ∧ n = n'
    · obtain ⟨rfl, rfl, rfl⟩ := hk
      simp at hr
      exact .inr ⟨i, e, by simp [Instr.findAsking, hr, h2], by simp, h1⟩
    · have hf : (decide (p = p') && (decide (q = q') && decide (n = n'))) = false := by
        cases hb : (decide (p = p') && (decide (q = q') && decide (n = n')))
        · rfl
        · simp only [Bool.and_eq_true, decide_eq_true_eq] at hb; exact absurd hb hk
      rw [hf] at hr
      rcases find_kv (n := n) hp hq es (i + 1) (fun x hx => hall x (by simp [hx])) with h | ⟨j, e', h5, h6, h7⟩
      · exact .inl (by simp [Instr.findAsking, hr, h])
      · exact .inr ⟨j, e', by simp [Instr.findAsking, hr, h5], by simp [h6], h7⟩
theorem check_kv (w : World) (em : Bool) (p q : Addr) (n : Nat) : (Instr.checkKey em 10000 146 (kv p q n)).run Tryz.prog w = .ok () w := by
  cases em <;> kernel_rfl
theorem map_kv {w : World} {b : Nat} {es : Array MapEntry} {clock : Nat} {p q : Addr} {n : Nat} (hb : w.heap[b]? = some (.map es clock)) (hes : ∀ e ∈ es.toList, KE w e) (hp : PB w p) (hq : PB w q) :
    ((Instr.lookup 141 (.map (some b)) (kv p q n) false).run Tryz.prog w = .ok (.bool true) w ∧ ∃ e ∈ es.toList, e.key = kv p q n) ∨
    ((Instr.lookup 141 (.map (some b)) (kv p q n) false).run Tryz.prog w = .ok (.bool false) w ∧
      (Instr.mapUpdate 141 (.map (some b)) (kv p q n) (.bool true)).run Tryz.prog w = .ok () { w with heap := w.heap.setIfInBounds b (.map (es.push ⟨kv p q n, .bool true, clock⟩) (clock + 1)) }) := by
  have hf : (Instr.findKey 146 (kv p q n) es.toList).run Tryz.prog w = (Instr.findAsking 146 (kv p q n) es.toList).run Tryz.prog w := run_findKey_eq w (by rw [Tryz.underlying146]) _ _
  rcases find_kv (n := n) hp hq es.toList 0 hes with h | ⟨j, e, h1, h2, h3⟩
  · rw [h] at hf
    refine .inr ⟨?_, ?_⟩
    · simp [Instr.lookup, run_underlying Tryz.underlying141, MapKept.run_getObj_map hb, check_kv, hf, Result.andThen]
    · simp [Instr.mapUpdate, run_underlying Tryz.underlying141, MapKept.run_getObj_map hb, check_kv, hf, MapKept.run_setObj_map _ hb, Result.andThen]
  · rw [h1] at hf
    refine .inl ⟨?_, e, h2, h3⟩
    simp [Instr.lookup, run_underlying Tryz.underlying141, MapKept.run_getObj_map hb, check_kv, hf, Result.andThen]
end Go.Proofs.YtabignplhkbcpaaGreatDoor

namespace Go.Proofs.YtabignplhkbcpaaGreatDoor
open Go.RowKit

/-- One of a pair: what it is, and where its kids lie. -/
abbrev K4 := Ex × Option Addr × Nat
def k4C (d : K4) : List Value := kidCells d.1 d.2.1 d.2.2
def prC (p : K4 × K4) : List Value := k4C p.1 ++ k4C p.2
def prE (p : K4 × K4) : Ex × Ex := (p.1.1, p.2.1)
def rowP (ps : List (K4 × K4)) : List Value := ps.flatMap prC
theorem rowP_append (xs ys : List (K4 × K4)) : rowP (xs ++ ys) = rowP xs ++ rowP ys := by simp [rowP]
theorem rowP_one1 (x : K4 × K4) : rowP [x] = prC x := by simp [rowP]
theorem rowP_cons (x : K4 × K4) (xs : List (K4 × K4)) : rowP (x :: xs) = prC x ++ rowP xs := by simp [rowP]
theorem prC_length (x : K4 × K4) : (prC x).length = 8 := rfl
theorem rowP_length (xs : List (K4 × K4)) : (rowP xs).length = xs.length * 8 := by
  induction xs with
  | nil => rfl
  | cons x xs ih => rw [rowP_cons, List.length_append, prC_length, ih, List.length_cons]; omega
theorem prC_one (d : K4 × K4) : ∀ u ∈ prC d, u.oneCell' = true := by
  intro u hu
  simp [prC, k4C, kidCells] at hu
  rcases hu with rfl | rfl | rfl | rfl | rfl | rfl | rfl | rfl <;> rfl
theorem infoP : (Tryz.prog.info? 142).map (fun i => (i.zero, i.size, i.bytes)) = some (some (.agg #[.int .i64 0, .int .i64 0, .string ByteArray.empty, .slice none 0 0, .int .i64 0, .int .i64 0, .string ByteArray.empty, .slice none 0 0]), 8, 112) := by kernel_rfl
/-- The row is there, at this block. -/
def RowAt (w : World) (base g n c : Nat) (ps : List (K4 × K4)) : Prop := w.ownsRow base 142 8 (.slice (some ⟨g, 0, none⟩) n c) n (rowP ps)
theorem RowAt.lt {w : World} {base g n c : Nat} {ps : List (K4 × K4)} (h : RowAt w base g n c ps) : base ≤ g ∧ g < w.heap.size ∧ n ≤ c := by
  rcases h.2 with ⟨h0, _⟩ | ⟨g2, _, _, hv, hb, hgb, hc, _⟩
  · cases h0
  · injection hv with h1 h2 h3
    injection h1 with h1
    injection h1 with h1
    subst h1 h3
    exact ⟨hb, (Array.getElem?_eq_some_iff.1 hgb).1, hc⟩
theorem RowAt.keep {w w' : World} {base g n c : Nat} {ps : List (K4 × K4)} (h : RowAt w base g n c ps) (hb : w'.heap[g]? = w.heap[g]?) : RowAt w' base g n c ps := by
  refine ⟨h.1, ?_⟩
  rcases h.2 with ⟨h0, _⟩ | ⟨g2, c2, cur, hv, hb2, hgb, hr⟩
  · cases h0
  · injection hv with h1 h2 h3
    injection h1 with h1
    injection h1 with h1
    subst h1 h3
    exact .inr ⟨g, c, cur, rfl, hb2, hb.trans hgb, hr⟩
/-- The last one is cut off. -/
theorem RowAt.pop {w : World} {base g n c : Nat} {ps : List (K4 × K4)} {p : K4 × K4} (h : RowAt w base g (n + 1) c (ps ++ [p])) (hn : ps.length = n) : RowAt w base g n c ps := by
  refine ⟨by rw [rowP_length, hn], ?_⟩
  rcases h.2 with ⟨h0, _⟩ | ⟨g2, c2, cur, hv, hb2, hgb, hnc, hcm, hcs, ht⟩
  · cases h0
  · injection hv with h1 h2 h3
    injection h1 with h1
    injection h1 with h1
    subst h1 h3
    refine .inr ⟨g, c, cur, rfl, hb2, hgb, by omega, hcm, hcs, ?_⟩
    have h4 := congrArg (List.take (n * 8)) ht
    rw [List.take_take, rowP_append, List.take_append_of_le_length (by rw [rowP_length]; omega), show min (n * 8) ((n + 1) * 8) = n * 8 by omega] at h4
    rw [h4, List.take_of_length_le (by rw [rowP_length]; omega)]
/-- The cells of the last one. -/
theorem RowAt.last {w : World} {base g n c : Nat} {ps : List (K4 × K4)} {p : K4 × K4} (h : RowAt w base g (n + 1) c (ps ++ [p])) (hn : ps.length = n) {i : Nat} (hi : i < 8) : w.cell? ⟨g, n * 8 + i, none⟩ = (prC p)[i]? := by
  have h1 : (rowP (ps ++ [p]))[n * 8 + i]? = (prC p)[i]? := by
    rw [rowP_append, rowP_one1, List.getElem?_append_right (by rw [rowP_length]; omega), rowP_length, hn, show n * 8 + i - n * 8 = i by omega]
  have hl : i < (prC p).length := by rw [prC_length]; exact hi
  rw [List.getElem?_eq_getElem hl] at h1 ⊢
  have := World.ownsRow.cells h (g := g) rfl (n * 8 + i) _ h1
  rwa [show ((⟨g, 0, none⟩ : Addr).add (n * 8 + i)) = ⟨g, n * 8 + i, none⟩ from by unfold Addr.add; split <;> simp_all] at this
theorem RowAt.made {w : World} {base : Nat} (p : K4 × K4) (hb : base ≤ w.heap.size) : RowAt (w.alloc (.cells (prC p).toArray 142)) base w.heap.size 1 1 [p] :=
  ⟨by rw [rowP_length]; rfl, .inr ⟨w.heap.size, 1, (prC p).toArray, rfl, hb, World.alloc_heap_new w _, Nat.le_refl _, by simp [maxLen], rfl, by rw [rowP_one1]; rfl⟩⟩

theorem wp_namedP {ops : Array Oper} {o : Oper} {a : Act} {Y : World} {K : Act → World → Prop} {Q : Exit → Act → World → Prop} {E : Prop}
    (h : ∀ Z, Z = Y → if Region.wanted o (yielded ops a.tmps) = true then Oper.wp Tryz.prog o a Z K Q else E) : if Region.wanted o (yielded ops a.tmps) = true then Oper.wp Tryz.prog o a Y K Q else E := h Y rfl
/-- append of a pair onto a row of one's own, as a step of a region that draws. -/
theorem step_ownP {ops : Array Oper} {o : Oper} {a : Act} {Y : World} {K : Act → World → Prop} {Q : Exit → Act → World → Prop} {E : Prop}
    (hg : o.guard = none) (s x : Operand) (hop : o.op = Op.call { callee := Callee.builtin Builtin.append, args := #[s, x], argTypes := #[143, 143] })
    (B g n c : Nat) (ds : List (K4 × K4)) (hown : RowAt Y B g n c ds) (hs : a.eval s = .slice (some ⟨g, 0, none⟩) n c)
    (g2 c2 : Nat) (d : K4 × K4) (hblk : Y.heap[g2]? = some (.cells (prC d).toArray 142)) (hx : a.eval x = .slice (some ⟨g2, 0, none⟩) 1 c2) (b1 : n ≤ 2 ^ 31) (hB : B ≤ Y.heap.size)
    (hK : ∀ g' cap' Z, RowAt Z B g' (n + 1) cap' (ds ++ [d]) → Y.grownBy Z (some g) → (g' = g ∨ g' = Y.heap.size) → K (a.put o.dst (.slice (some ⟨g', 0, none⟩) (n + 1) cap')) Z) :
    if Region.wanted o (yielded ops a.tmps) = true then Oper.wp Tryz.prog o a Y K Q else E := by
  obtain ⟨i0, hi, hzz⟩ := Option.map_eq_some_iff.1 infoP
  simp only [Prod.mk.injEq] at hzz
  obtain ⟨hz0, hz1, hz2⟩ := hzz
  have hw : Region.wanted o (yielded ops a.tmps) = true := by simp [Region.wanted, hg]
  rw [if_pos hw]
  obtain ⟨v', w', hrun, r1, r2, _, r4⟩ := run_append_own_at (P := Tryz.prog) Y B 143 o.type 142 i0 _ 8 112 Tryz.underlying143 hi hz0 hz1 hz2 rfl (by decide) _ n (rowP ds) hown ⟨g2, 0, none⟩ 1 c2 (prC d) rfl
    (fun j u hj => by
      have hp : (⟨g2, 0, none⟩ : Addr).add j = ⟨g2, 0 + j, none⟩ := by unfold Addr.add; split <;> simp_all
      have hcell : Y.cell? ⟨g2, j, none⟩ = (prC d).toArray[j]? := by simp [World.cell?, hblk]
      rw [hp, Nat.zero_add, hcell, List.getElem?_toArray]; exact hj)
    (prC_one d) (by unfold maxLen; omega) (by omega) hB
  obtain ⟨g', cap', rfl, _, r5⟩ := r1.form (by omega)
  unfold Oper.wp
  simp [execOp, hop, resolve, invoke, builtin, hs, hx, hrun, Result.andThen]
  have r6 : g' = g ∨ g' = Y.heap.size := by
    rcases r4 with h | h
    · simp [Value.ownBlock] at h; exact .inl h
    · simp [Value.ownBlock] at h; exact .inr h
  exact hK g' cap' w' (by unfold RowAt; rw [rowP_append, rowP_one1]; exact r1) r2 r6
end Go.Proofs.YtabignplhkbcpaaGreatDoor
