/-
  What is reckoned in memory of its own: no two lists of kids share any.
-/
import Derived.Test.YtaclndbilpaboaaGreatDoorExs
import Derived.Test.YtaclndbilpaboaaGreatDoorSpecEx
namespace Go.Proofs.YtaclndbilpaboaaGreatDoor
open Go.RowKit

/-- The cells of a kid. -/
structure KidC (w : World) (g off : Nat) (e : Ex) (D : Option Addr) (c : Nat) : Prop where
  c0 : w.cell? ⟨g, off, none⟩ = some (.int .i64 e.kind)
  c1 : w.cell? ⟨g, off + 1, none⟩ = some (.int .i64 e.n)
  c2 : w.cell? ⟨g, off + 2, none⟩ = some (.string e.s)
  c3 : w.cell? ⟨g, off + 3, none⟩ = some (.slice D e.kids.length c)
  hc : e.kids.length ≤ c
def Blk (w : World) (g : Nat) (cur : Array Value) : Prop := w.heap[g]? = some (.cells cur 31 (0, 0))
theorem Blk.lt {w : World} {g : Nat} {cur : Array Value} (h : Blk w g cur) : g < w.heap.size := (Array.getElem?_eq_some_iff.1 h).1
theorem Blk.cell {w : World} {g : Nat} {cur : Array Value} (h : Blk w g cur) (i : Nat) : w.cell? ⟨g, i, none⟩ = cur[i]? := by simp [World.cell?, show w.heap[g]? = _ from h]
theorem Blk.frozen {w : World} {g : Nat} {cur : Array Value} (h : Blk w g cur) (i : Nat) : w.frozen? ⟨g, i, none⟩ = false := by simp [World.frozen?, show w.heap[g]? = _ from h]
theorem Blk.set {w : World} {g : Nat} {cur : Array Value} (h : Blk w g cur) (i : Nat) (v : Value) : Blk (w.setCell ⟨g, i, none⟩ v) g (cur.setIfInBounds i v) := heap_setCell_same w g i cur _ v h

mutual
/-- The kids of e lie at A, in memory of their own, within blocks lo to hi. -/
def OwnE (w : World) : Ex → Nat → Nat → Option Addr → Prop
  | .mk _ _ _ ks, lo, hi, A => (ks = [] ∧ lo ≤ hi) ∨ ∃ g lo' hi', A = some ⟨g, 0, none⟩ ∧ lo ≤ g ∧ g < hi ∧ lo ≤ lo' ∧ hi' ≤ hi ∧ (g < lo' ∨ hi' ≤ g) ∧ (∃ cur, Blk w g cur) ∧ OwnL w ks g 0 lo' hi'
def OwnL (w : World) : List Ex → Nat → Nat → Nat → Nat → Prop
  | [], _, _, lo, hi => lo ≤ hi
  | e :: es, g, off, lo, hi => ∃ D c mid, KidC w g off e D c ∧ OwnE w e lo mid D ∧ OwnL w es g (off + 4) mid hi
end
theorem KidC.keep {w w' : World} {g off : Nat} {e : Ex} {D : Option Addr} {c : Nat} (h : KidC w g off e D c) (hk : ∀ i, off ≤ i → i < off + 4 → w'.cell? ⟨g, i, none⟩ = w.cell? ⟨g, i, none⟩) : KidC w' g off e D c :=
  ⟨(hk _ (by omega) (by omega)).trans h.c0, (hk _ (by omega) (by omega)).trans h.c1, (hk _ (by omega) (by omega)).trans h.c2, (hk _ (by omega) (by omega)).trans h.c3, h.hc⟩

theorem own_le (w : World) (e : Ex) : ∀ lo hi A, OwnE w e lo hi A → lo ≤ hi := by
  intro lo hi A h
  obtain ⟨k, n, s, ks⟩ := e
  rw [OwnE] at h
  rcases h with h | ⟨g, _, _, _, h1, h2, _⟩ <;> omega
theorem ownL_le (w : World) (es : List Ex) : ∀ g off lo hi, OwnL w es g off lo hi → lo ≤ hi := by
  induction es with
  | nil => intro g off lo hi h; rw [OwnL] at h; exact h
  | cons e es ih =>
    intro g off lo hi h
    rw [OwnL] at h
    obtain ⟨D, c, mid, _, h2, h3⟩ := h
    exact Nat.le_trans (own_le w e _ _ _ h2) (ih _ _ _ _ h3)
theorem ownL_keep_of {w w' : World} (es : List Ex) (ih : ∀ e ∈ es, ∀ lo hi A, (∀ k, lo ≤ k → k < hi → w'.heap[k]? = w.heap[k]?) → OwnE w e lo hi A → OwnE w' e lo hi A) :
    ∀ g off lo hi, (∀ i, off ≤ i → i < off + 4 * es.length → w'.cell? ⟨g, i, none⟩ = w.cell? ⟨g, i, none⟩) → (∀ k, lo ≤ k → k < hi → w'.heap[k]? = w.heap[k]?) → OwnL w es g off lo hi → OwnL w' es g off lo hi := by
  induction es with
  | nil => intro g off lo hi _ _ h; rw [OwnL] at h ⊢; exact h
  | cons e es ih2 =>
    intro g off lo hi hc hb h
    rw [OwnL] at h ⊢
    obtain ⟨D, c, mid, h1, h2, h3⟩ := h
    have l1 := own_le w e _ _ _ h2
    have l2 := ownL_le w es _ _ _ _ h3
    simp only [List.length_cons] at hc
    refine ⟨D, c, mid, h1.keep (fun i hi1 hi2 => hc i hi1 (by omega)), ih e (by simp) lo mid D (fun k h1 h2 => hb k h1 (by omega)) h2, ?_⟩
    exact ih2 (fun e he => ih e (by simp [he])) g (off + 4) mid hi (fun i hi1 hi2 => hc i (by omega) (by omega)) (fun k h1 h2 => hb k (by omega) h2) h3
theorem own_keep {w w' : World} (e : Ex) : ∀ lo hi A, (∀ k, lo ≤ k → k < hi → w'.heap[k]? = w.heap[k]?) → OwnE w e lo hi A → OwnE w' e lo hi A := by
  induction e using Ex.ind with
  | h k n s ks ih =>
    intro lo hi A hb h
    rw [OwnE] at h ⊢
    rcases h with h | ⟨g, lo', hi', e, h1, h2, h3, h4, h5, ⟨cur, h6⟩, h7⟩
    · exact .inl h
    · have hg := hb g h1 h2
      refine .inr ⟨g, lo', hi', e, h1, h2, h3, h4, h5, ⟨cur, hg.trans h6⟩, ?_⟩
      exact ownL_keep_of ks ih g 0 lo' hi' (fun i _ _ => World.cell?_of_block (a := ⟨g, i, none⟩) hg) (fun k h1 h2 => hb k (by omega) (by omega)) h7
theorem ownL_keep {w w' : World} {es : List Ex} {g off lo hi : Nat} (hc : ∀ i, off ≤ i → i < off + 4 * es.length → w'.cell? ⟨g, i, none⟩ = w.cell? ⟨g, i, none⟩) (hb : ∀ k, lo ≤ k → k < hi → w'.heap[k]? = w.heap[k]?) (h : OwnL w es g off lo hi) : OwnL w' es g off lo hi :=
  ownL_keep_of es (fun e _ => own_keep e) g off lo hi hc hb h
theorem own_wide {w : World} {e : Ex} {lo hi lo2 hi2 : Nat} {A : Option Addr} (h : OwnE w e lo hi A) (h1 : lo2 ≤ lo) (h2 : hi ≤ hi2) : OwnE w e lo2 hi2 A := by
  obtain ⟨k, n, s, ks⟩ := e
  rw [OwnE] at h ⊢
  rcases h with h | ⟨g, lo', hi', e, q1, q2, q3, q4, q5, q6, q7⟩
  · exact .inl ⟨h.1, by omega⟩
  · exact .inr ⟨g, lo', hi', e, by omega, by omega, by omega, by omega, q5, q6, q7⟩
theorem ownL_wide {w : World} {es : List Ex} : ∀ {g off lo hi hi2 : Nat}, OwnL w es g off lo hi → hi ≤ hi2 → OwnL w es g off lo hi2 := by
  induction es with
  | nil => intro g off lo hi hi2 h h1; rw [OwnL] at h ⊢; omega
  | cons e es ih =>
    intro g off lo hi hi2 h h1
    rw [OwnL] at h ⊢
    obtain ⟨D, c, mid, q1, q2, q3⟩ := h
    exact ⟨D, c, mid, q1, q2, ih q3 h1⟩
theorem ownL_append {w : World} {es fs : List Ex} : ∀ {g off lo mid hi : Nat}, OwnL w es g off lo mid → OwnL w fs g (off + 4 * es.length) mid hi → OwnL w (es ++ fs) g off lo hi := by
  induction es with
  | nil =>
    intro g off lo mid hi h1 h2
    rw [OwnL] at h1
    rw [List.nil_append]
    simp only [List.length_nil, Nat.mul_zero, Nat.add_zero] at h2
    cases fs with
    | nil => rw [OwnL] at h2 ⊢; omega
    | cons f fs =>
      rw [OwnL] at h2 ⊢
      obtain ⟨D, c, m, q1, q2, q3⟩ := h2
      exact ⟨D, c, m, q1, own_wide q2 h1 (Nat.le_refl _), q3⟩
  | cons e es ih =>
    intro g off lo mid hi h1 h2
    rw [OwnL] at h1
    rw [List.cons_append, OwnL]
    obtain ⟨D, c, m, q1, q2, q3⟩ := h1
    refine ⟨D, c, m, q1, q2, ih q3 ?_⟩
    rw [show off + 4 + 4 * es.length = off + 4 * (e :: es).length by simp only [List.length_cons]; omega]
    exact h2
theorem ownL_split {w : World} {es fs : List Ex} : ∀ {g off lo hi : Nat}, OwnL w (es ++ fs) g off lo hi → ∃ mid, OwnL w es g off lo mid ∧ OwnL w fs g (off + 4 * es.length) mid hi := by
  induction es with
  | nil => intro g off lo hi h; exact ⟨lo, by rw [OwnL]; exact Nat.le_refl _, by simpa using h⟩
  | cons e es ih =>
    intro g off lo hi h
    rw [List.cons_append, OwnL] at h
    obtain ⟨D, c, m, q1, q2, q3⟩ := h
    obtain ⟨mid, r1, r2⟩ := ih q3
    refine ⟨mid, by rw [OwnL]; exact ⟨D, c, m, q1, q2, r1⟩, ?_⟩
    rw [show off + 4 * (e :: es).length = off + 4 + 4 * es.length by simp only [List.length_cons]; omega]
    exact r2
theorem ownL_snoc {w : World} {es : List Ex} {e : Ex} {g off lo mid hi : Nat} {D : Option Addr} {c : Nat} (h : OwnL w es g off lo mid) (hk : KidC w g (off + 4 * es.length) e D c) (he : OwnE w e mid hi D) : OwnL w (es ++ [e]) g off lo hi :=
  ownL_append h (by rw [OwnL]; exact ⟨D, c, hi, hk, he, by rw [OwnL]; exact Nat.le_refl _⟩)
theorem own_kids {w : World} (e : Ex) : ∀ lo hi A B, OwnE w e lo hi A → hi ≤ B → KidsAt w B A e.kids := by
  induction e using Ex.ind with
  | h k n s ks ih =>
    intro lo hi A B h hB
    rw [OwnE] at h
    show KidsAt w B A ks
    rcases h with h | ⟨g, lo', hi', e, h1, h2, h3, h4, h5, h6, h7⟩
    · rw [h.1]; exact .nil
    · subst e
      have each : ∀ (es : List Ex) (off lo : Nat), (∀ e ∈ es, e ∈ ks) → OwnL w es g off lo hi' → ∀ j (hj : j < es.length), ∃ D c, KidIs w B g (off + j * 4) es[j] D c := by
        intro es
        induction es with
        | nil => intro off lo _ _ j hj; simp at hj
        | cons x xs ih2 =>
          intro off lo hm hl j hj
          rw [OwnL] at hl
          obtain ⟨D, c, mid, q1, q2, q3⟩ := hl
          have l3 := ownL_le w xs _ _ _ _ q3
          cases j with
          | zero => exact ⟨D, c, by simpa using q1.c0, by simpa using q1.c1, by simpa using q1.c2, by simpa using q1.c3, q1.hc, ih x (hm x (by simp)) lo mid D B q2 (by omega)⟩
          | succ j =>
            obtain ⟨D', c', hx⟩ := ih2 (off + 4) mid (fun e he => hm e (by simp [he])) q3 j (by simpa using hj)
            rw [show off + 4 + j * 4 = off + (j + 1) * 4 by omega] at hx
            exact ⟨D', c', hx⟩
      have := each ks 0 lo' (fun _ h => h) h7
      exact KidsAt.of (by omega) this
theorem own_nil (w : World) (k n : Int) (s : ByteArray) (lo hi : Nat) (A : Option Addr) (h : lo ≤ hi) : OwnE w (.mk k n s []) lo hi A := by
  rw [OwnE]; exact .inl ⟨rfl, h⟩
end Go.Proofs.YtaclndbilpaboaaGreatDoor
