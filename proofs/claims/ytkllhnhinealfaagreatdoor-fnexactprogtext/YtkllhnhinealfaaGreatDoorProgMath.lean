/-
  Plain mathematics of programs: which lines are one. No Go.
-/
import Derived.Test.YtkllhnhinealfaaGreatDoorDeedMath
namespace Go.Proofs.YtkllhnhinealfaaGreatDoor

/-- The deeds of lines, if each is ok. -/
def deedsL : List St → Option (List De)
  | [] => some []
  | s :: ss => (doS s).bind fun d => (deedsL ss).map fun ds => d :: ds
theorem deedsL_some : ∀ (xs : List St) (ds : List De), deedsL xs = some ds ↔ ds.length = xs.length ∧ ∀ j (hj : j < xs.length) (hd : j < ds.length), doS xs[j] = some ds[j] := by
  intro xs
  induction xs with
  | nil =>
    intro ds
    constructor
    · intro h; cases h; exact ⟨rfl, fun j hj => absurd hj (Nat.not_lt_zero _)⟩
    · rintro ⟨h, _⟩
      cases ds with
      | nil => rfl
      | cons d ds => simp at h
  | cons x xs ih =>
    intro ds
    constructor
    · intro h
      obtain ⟨d, h1, h2⟩ := Option.bind_eq_some_iff.1 h
      obtain ⟨es, h3, rfl⟩ := Option.map_eq_some_iff.1 h2
      obtain ⟨h4, h5⟩ := (ih es).1 h3
      refine ⟨by simp [h4], fun j hj hd => ?_⟩
      cases j with
      | zero => exact h1
      | succ j => exact h5 j (by simpa using hj) (by simpa using hd)
    · rintro ⟨h1, h2⟩
      cases ds with
      | nil => simp at h1
      | cons d ds =>
        have h3 := h2 0 (by simp) (by simp)
        have h4 := (ih ds).2 ⟨by simpa using h1, fun j hj hd => h2 (j + 1) (by simpa using hj) (by simpa using hd)⟩
        simp only [List.getElem_cons_zero] at h3
        simp only [deedsL, h3, h4, Option.bind_some, Option.map_some]
theorem deedsL_none {xs : List St} {j : Nat} (hj : j < xs.length) (h : doS xs[j] = none) : deedsL xs = none := by
  cases hd : deedsL xs with
  | none => rfl
  | some ds =>
    obtain ⟨h1, h2⟩ := (deedsL_some xs ds).1 hd
    have := h2 j hj (by omega)
    rw [h] at this
    cases this
/-- The deeds of a program. -/
def doP (xs : List St) : Option (List De) := if 1 ≤ xs.length ∧ xs.length ≤ 16 then deedsL xs else none
theorem doP_some {xs : List St} {ds : List De} (h : doP xs = some ds) : deedsL xs = some ds ∧ 1 ≤ xs.length ∧ xs.length ≤ 16 := by
  unfold doP at h
  split at h
  · rename_i hh; exact ⟨h, hh⟩
  · cases h
theorem doP_fine {xs : List St} {ds : List De} (h : doP xs = some ds) : ds.length = xs.length ∧ (∀ d ∈ ds, d.fine = true ∧ d.text.size ≤ 116) := by
  obtain ⟨h1, h2, h3⟩ := doP_some h
  obtain ⟨h4, h5⟩ := (deedsL_some xs ds).1 h1
  refine ⟨h4, fun d hd => ?_⟩
  obtain ⟨j, hj, rfl⟩ := List.getElem_of_mem hd
  have h6 := doS_some (h5 j (by omega) hj)
  exact ⟨h6.1, h6.2.2⟩
/-- As the model asks it. -/
theorem doP_all (xs : List St) : (doP xs).isSome = ((xs.all fun s => (doS s).isSome) && (decide (1 ≤ xs.length) && decide (xs.length ≤ 16))) := by
  unfold doP
  by_cases h : 1 ≤ xs.length ∧ xs.length ≤ 16
  · rw [if_pos h]
    simp only [h.1, h.2, decide_true, Bool.and_true]
    clear h
    induction xs with
    | nil => rfl
    | cons x xs ih =>
      rw [List.all_cons, ← ih]
      simp only [deedsL]
      cases doS x with
      | none => rfl
      | some d => cases deedsL xs <;> rfl
  · rw [if_neg h]
    have : (decide (1 ≤ xs.length) && decide (xs.length ≤ 16)) = false := by
      rw [Bool.eq_false_iff]
      intro h2
      simp only [Bool.and_eq_true, decide_eq_true_eq] at h2
      exact h h2
    rw [this]
    simp
end Go.Proofs.YtkllhnhinealfaaGreatDoor
