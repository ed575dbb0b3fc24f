/-
  What is reckoned, in memory: how its kids lie there, below a block, kept by whatever leaves memory below it alone.
-/
import Derived.Test.YtaclndbilpaboaaGreatDoorBase
import Derived.Test.YtaclndbilpaboaaGreatDoorExMath
namespace Go.Proofs.YtaclndbilpaboaaGreatDoor
open Go.RowKit

/-- The slice at this address holds these kids, each with its own kids, all below block B. -/
inductive KidsAt (w : World) (B : Nat) : Option Addr → List Ex → Prop
  | nil {A : Option Addr} : KidsAt w B A []
  | mk {g off : Nat} {ks : List Ex} (D : Nat → Option Addr) (c : Nat → Nat) (hg : g < B)
      (h0 : ∀ j (h : j < ks.length), w.cell? ⟨g, off + j * 4, none⟩ = some (.int .i64 ks[j].kind))
      (h1 : ∀ j (h : j < ks.length), w.cell? ⟨g, off + j * 4 + 1, none⟩ = some (.int .i64 ks[j].n))
      (h2 : ∀ j (h : j < ks.length), w.cell? ⟨g, off + j * 4 + 2, none⟩ = some (.string ks[j].s))
      (h3 : ∀ j (h : j < ks.length), w.cell? ⟨g, off + j * 4 + 3, none⟩ = some (.slice (D j) ks[j].kids.length (c j)))
      (hc : ∀ j (h : j < ks.length), ks[j].kids.length ≤ c j)
      (hk : ∀ j (h : j < ks.length), KidsAt w B (D j) ks[j].kids) : KidsAt w B (some ⟨g, off, none⟩) ks

theorem KidsAt.keep {w w' : World} {B : Nat} {A : Option Addr} {ks : List Ex} (h : KidsAt w B A ks) (hb : Below B w w') : KidsAt w' B A ks := by
  induction h with
  | nil => exact .nil
  | mk D c hg h0 h1 h2 h3 hc _ ih =>
    exact .mk D c hg (fun j h => (hb.cell (p := ⟨_, _, none⟩) hg).trans (h0 j h)) (fun j h => (hb.cell (p := ⟨_, _, none⟩) hg).trans (h1 j h))
      (fun j h => (hb.cell (p := ⟨_, _, none⟩) hg).trans (h2 j h)) (fun j h => (hb.cell (p := ⟨_, _, none⟩) hg).trans (h3 j h)) hc ih
theorem KidsAt.wide {w : World} {B B' : Nat} {A : Option Addr} {ks : List Ex} (h : KidsAt w B A ks) (hb : B ≤ B') : KidsAt w B' A ks := by
  induction h with
  | nil => exact .nil
  | mk D c hg h0 h1 h2 h3 hc _ ih => exact .mk D c (Nat.lt_of_lt_of_le hg hb) h0 h1 h2 h3 hc ih

/-- The cells of a kid. -/
structure KidIs (w : World) (B : Nat) (g off : Nat) (e : Ex) (D : Option Addr) (c : Nat) : Prop where
  c0 : w.cell? ⟨g, off, none⟩ = some (.int .i64 e.kind)
  c1 : w.cell? ⟨g, off + 1, none⟩ = some (.int .i64 e.n)
  c2 : w.cell? ⟨g, off + 2, none⟩ = some (.string e.s)
  c3 : w.cell? ⟨g, off + 3, none⟩ = some (.slice D e.kids.length c)
  hc : e.kids.length ≤ c
  hk : KidsAt w B D e.kids
theorem KidsAt.at_ {w : World} {B : Nat} {A : Option Addr} {ks : List Ex} (h : KidsAt w B A ks) {j : Nat} (hj : j < ks.length) :
    ∃ g off D c, A = some ⟨g, off, none⟩ ∧ g < B ∧ KidIs w B g (off + j * 4) ks[j] D c := by
  cases h with
  | nil => simp at hj
  | @mk g off _ D c hg h0 h1 h2 h3 hc hk => exact ⟨g, off, D j, c j, rfl, hg, h0 j hj, h1 j hj, h2 j hj, h3 j hj, hc j hj, hk j hj⟩
theorem KidsAt.of {w : World} {B : Nat} {g off : Nat} {ks : List Ex} (hg : g < B) (h : ∀ j (hj : j < ks.length), ∃ D c, KidIs w B g (off + j * 4) ks[j] D c) : KidsAt w B (some ⟨g, off, none⟩) ks := by
  have h' : ∀ j, ∃ x : Option Addr × Nat, ∀ hj : j < ks.length, KidIs w B g (off + j * 4) ks[j] x.1 x.2 := by
    intro j
    by_cases hj : j < ks.length
    · obtain ⟨D, c, hx⟩ := h j hj
      exact ⟨(D, c), fun _ => hx⟩
    · exact ⟨(none, 0), fun h => absurd h hj⟩
  refine .mk (fun j => (Classical.choose (h' j)).1) (fun j => (Classical.choose (h' j)).2) hg ?_ ?_ ?_ ?_ ?_ ?_ <;> intro j hj <;> have hx := Classical.choose_spec (h' j) hj
  · exact hx.c0
  · exact hx.c1
  · exact hx.c2
  · exact hx.c3
  · exact hx.hc
  · exact hx.hk
theorem KidIs.below {w w' : World} {B g off : Nat} {e : Ex} {D : Option Addr} {c : Nat} (h : KidIs w B g off e D c) (hb : Below B w w') (hg : g < B) : KidIs w' B g off e D c :=
  ⟨(hb.cell (p := ⟨_, _, none⟩) hg).trans h.c0, (hb.cell (p := ⟨_, _, none⟩) hg).trans h.c1, (hb.cell (p := ⟨_, _, none⟩) hg).trans h.c2, (hb.cell (p := ⟨_, _, none⟩) hg).trans h.c3, h.hc, h.hk.keep hb⟩

/-- The value is this one, in this world, below block B. -/
def IsEx (w : World) (B : Nat) (v : Value) (e : Ex) : Prop :=
  ∃ A c, v = .agg #[.int .i64 e.kind, .int .i64 e.n, .string e.s, .slice A e.kids.length c] ∧ e.kids.length ≤ c ∧ KidsAt w B A e.kids
theorem IsEx.below {w w' : World} {B : Nat} {v : Value} {e : Ex} (h : IsEx w B v e) (hb : Below B w w') : IsEx w' B v e := by
  obtain ⟨A, c, h1, h2, h3⟩ := h
  exact ⟨A, c, h1, h2, h3.keep hb⟩
theorem IsEx.wide {w : World} {B B' : Nat} {v : Value} {e : Ex} (h : IsEx w B v e) (hb : B ≤ B') : IsEx w B' v e := by
  obtain ⟨A, c, h1, h2, h3⟩ := h
  exact ⟨A, c, h1, h2, h3.wide hb⟩
theorem KidIs.isEx {w : World} {B g off : Nat} {e : Ex} {D : Option Addr} {c : Nat} (h : KidIs w B g off e D c) : IsEx w B (.agg #[.int .i64 e.kind, .int .i64 e.n, .string e.s, .slice D e.kids.length c]) e := ⟨D, c, rfl, h.hc, h.hk⟩
theorem isEx_zero (w : World) (B : Nat) : IsEx w B (.agg #[.int .i64 0, .int .i64 0, .string ByteArray.empty, .slice none 0 0]) Ex.zero := ⟨none, 0, rfl, Nat.le_refl _, .nil⟩
end Go.Proofs.YtaclndbilpaboaaGreatDoor
