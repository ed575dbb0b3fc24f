/-
  Kids that lie in plain blocks, which may be written: what lies at an address is one.
-/
import Derived.Test.YtkllhnhinealfaaOwn
import Derived.Test.YtkllhnhinealfaaSameMath
namespace Go.Proofs.Ytkllhnhinealfaa
open Go.RowKit

/-- The slice at this address holds these kids, each with its own kids, all in plain blocks below B. -/
inductive KidsU (w : World) (B : Nat) : Option Addr → List Ex → Prop
  | nil {A : Option Addr} : KidsU w B A []
  | mk {g off : Nat} {ks : List Ex} (D : Nat → Option Addr) (c : Nat → Nat) (hg : g < B) (hb : ∃ cur, Blk w g cur)
      (h0 : ∀ j (h : j < ks.length), KidC w g (off + j * 4) ks[j] (D j) (c j))
      (hk : ∀ j (h : j < ks.length), KidsU w B (D j) ks[j].kids) : KidsU w B (some ⟨g, off, none⟩) ks
theorem KidsU.at_ {w : World} {B : Nat} {A : Option Addr} {ks : List Ex} (h : KidsU w B A ks) {j : Nat} (hj : j < ks.length) :
    ∃ g off D c, A = some ⟨g, off, none⟩ ∧ g < B ∧ (∃ cur, Blk w g cur) ∧ KidC w g (off + j * 4) ks[j] D c ∧ KidsU w B D ks[j].kids := by
  cases h with
  | nil => simp at hj
  | @mk g off _ D c hg hb h0 hk => exact ⟨g, off, D j, c j, rfl, hg, hb, h0 j hj, hk j hj⟩
theorem KidsU.of {w : World} {B : Nat} {g off : Nat} {ks : List Ex} (hg : g < B) (hb : ∃ cur, Blk w g cur) (h : ∀ j (hj : j < ks.length), ∃ D c, KidC w g (off + j * 4) ks[j] D c ∧ KidsU w B D ks[j].kids) : KidsU w B (some ⟨g, off, none⟩) ks := by
  have h' : ∀ j, ∃ x : Option Addr × Nat, ∀ hj : j < ks.length, KidC w g (off + j * 4) ks[j] x.1 x.2 ∧ KidsU w B x.1 ks[j].kids := by
    intro j
    by_cases hj : j < ks.length
    · obtain ⟨D, c, hx⟩ := h j hj
      exact ⟨(D, c), fun _ => hx⟩
    · exact ⟨(none, 0), fun h => absurd h hj⟩
  exact .mk (fun j => (Classical.choose (h' j)).1) (fun j => (Classical.choose (h' j)).2) hg hb (fun j hj => (Classical.choose_spec (h' j) hj).1) (fun j hj => (Classical.choose_spec (h' j) hj).2)
theorem KidsU.kids {w : World} {B : Nat} {A : Option Addr} {ks : List Ex} (h : KidsU w B A ks) : KidsAt w B A ks := by
  induction h with
  | nil => exact .nil
  | mk D c hg _ h0 _ ih => exact .mk D c hg (fun j h => (h0 j h).c0) (fun j h => (h0 j h).c1) (fun j h => (h0 j h).c2) (fun j h => (h0 j h).c3) (fun j h => (h0 j h).hc) ih
theorem KidsU.keep {w w' : World} {B : Nat} {A : Option Addr} {ks : List Ex} (h : KidsU w B A ks) (hb : Below B w w') : KidsU w' B A ks := by
  induction h with
  | nil => exact .nil
  | @mk g off ks D c hg hB h0 _ ih =>
    obtain ⟨cur, hcur⟩ := hB
    exact .mk D c hg ⟨cur, (hb.block g hg).trans hcur⟩ (fun j h => (h0 j h).keep (fun i _ _ => hb.cell (p := ⟨g, i, none⟩) hg)) ih
theorem KidsU.wide {w : World} {B B' : Nat} {A : Option Addr} {ks : List Ex} (h : KidsU w B A ks) (hb : B ≤ B') : KidsU w B' A ks := by
  induction h with
  | nil => exact .nil
  | mk D c hg hB h0 _ ih => exact .mk D c (Nat.lt_of_lt_of_le hg hb) hB h0 ih
theorem KidsU.lt {w : World} {B : Nat} {A : Option Addr} {ks : List Ex} (h : KidsU w B A ks) (hk : 0 < ks.length) : ∃ g off, A = some ⟨g, off, none⟩ ∧ g < B ∧ ∃ cur, Blk w g cur := by
  obtain ⟨g, off, D, c, e, hg, hb, _⟩ := h.at_ hk
  exact ⟨g, off, e, hg, hb⟩
/-- What lies there is one. -/
theorem KidsU.one {w : World} {B : Nat} {A : Option Addr} {ks : List Ex} (h : KidsU w B A ks) : ∀ {ks' : List Ex}, KidsU w B A ks' → ks.length = ks'.length → ks = ks' := by
  induction h with
  | nil => intro ks' _ hl; exact (List.eq_nil_of_length_eq_zero (by simpa using hl.symm)).symm
  | @mk g off ks D c hg hB h0 hk ih =>
    intro ks' h' hl
    refine List.ext_getElem hl (fun j h1 h2 => ?_)
    obtain ⟨g', off', D', c', e, _, _, q, r⟩ := h'.at_ h2
    injection e with e
    injection e with e1 e2
    subst e1 e2
    have q0 := h0 j h1
    have e0 := q0.c0.symm.trans q.c0
    have e1 := q0.c1.symm.trans q.c1
    have e2 := q0.c2.symm.trans q.c2
    have e3 := q0.c3.symm.trans q.c3
    simp only [Option.some.injEq, Value.int.injEq, true_and, Value.string.injEq, Value.slice.injEq] at e0 e1 e2 e3
    obtain ⟨e3, e4, _⟩ := e3
    rw [← e3] at r
    have e5 := ih j h1 r e4
    exact Alone2.kids ⟨e0, e1, e2, e4⟩ e5
theorem own_kidsU {w : World} (e : Ex) : ∀ lo hi A B, OwnE w e lo hi A → hi ≤ B → KidsU w B A e.kids := by
  induction e using Ex.ind with
  | h k n s ks ih =>
    intro lo hi A B h hB
    rw [OwnE] at h
    show KidsU w B A ks
    rcases h with h | ⟨g, lo', hi', e, h1, h2, h3, h4, h5, h6, h7⟩
    · rw [h.1]; exact .nil
    · subst e
      have each : ∀ (es : List Ex) (off lo : Nat), (∀ e ∈ es, e ∈ ks) → OwnL w es g off lo hi' → ∀ j (hj : j < es.length), ∃ D c, KidC w g (off + j * 4) es[j] D c ∧ KidsU w B D es[j].kids := by
        intro es
        induction es with
        | nil => intro off lo _ _ j hj; simp at hj
        | cons x xs ih2 =>
          intro off lo hm hl j hj
          rw [OwnL] at hl
          obtain ⟨D, c, mid, q1, q2, q3⟩ := hl
          have l3 := ownL_le w xs _ _ _ _ q3
          cases j with
          | zero => exact ⟨D, c, by simpa using q1, ih x (hm x (by simp)) lo mid D B q2 (by omega)⟩
          | succ j =>
            obtain ⟨D', c', hx⟩ := ih2 (off + 4) mid (fun e he => hm e (by simp [he])) q3 j (by simpa using hj)
            rw [show off + 4 + j * 4 = off + (j + 1) * 4 by omega] at hx
            exact ⟨D', c', hx⟩
      have := each ks 0 lo' (fun _ h => h) h7
      exact KidsU.of (by omega) h6 this
end Go.Proofs.Ytkllhnhinealfaa
