/-
  ProgMath, FitMath: these texts one behind the other, as a claim holds at most 60 files.
-/
import Derived.Test.YtabignplhkbcpaaGreatDoorGP
namespace Go.Proofs.YtabignplhkbcpaaGreatDoor

/-- The deeds of lines, if each is ok. -/
def deedsL : List St → Option (List De)
  | [] => some []
  | s :: ss => (doS s).bind fun d => (deedsL ss).map fun ds => d :: ds
theorem deedsL_some : ∀ (xs : List St) (ds : List De), deedsL xs = some ds ↔ ds.length = xs.length ∧ ∀ j (hj : j < xs.length) (hd : j < ds.length), doS xs[j] = some ds[j] := by
  intro xs
  induction xs with
  | nil =>
    intro ds
    constructor
    · intro h; cases h; exact ⟨rfl, fun j hj => absurd hj (Nat.not_lt_zero _)⟩
    · rintro ⟨h, _⟩
      cases ds with
      | nil => rfl
      | cons d ds => simp at h
  | cons x xs ih =>
    intro ds
    constructor
    · intro h
      obtain ⟨d, h1, h2⟩ := Option.bind_eq_some_iff.1 h
      obtain ⟨es, h3, rfl⟩ := Option.map_eq_some_iff.1 h2
      obtain ⟨h4, h5⟩ := (ih es).1 h3
      refine ⟨by simp [h4], fun j hj hd => ?_⟩
      cases j with
      | zero => exact h1
      | succ j => exact h5 j (by simpa using hj) (by simpa using hd)
    · rintro ⟨h1, h2⟩
      cases ds with
      | nil => simp at h1
      | cons d ds =>
        have h3 := h2 0 (by simp) (by simp)
        have h4 := (ih ds).2 ⟨by simpa using h1, fun j hj hd => h2 (j + 1) (by simpa using hj) (by simpa using hd)⟩
        simp only [List.getElem_cons_zero] at h3
        simp only [deedsL, h3, h4, Option.bind_some, Option.map_some]
theorem deedsL_none {xs : List St} {j : Nat} (hj : j < xs.length) (h : doS xs[j] = none) : deedsL xs = none := by
  cases hd : deedsL xs with
  | none => rfl
  | some ds =>
    obtain ⟨h1, h2⟩ := (deedsL_some xs ds).1 hd
    have := h2 j hj (by omega)
    rw [h] at this
    cases this
/-- The deeds of a program. -/
def doP (xs : List St) : Option (List De) := if 1 ≤ xs.length ∧ xs.length ≤ 16 then deedsL xs else none
theorem doP_some {xs : List St} {ds : List De} (h : doP xs = some ds) : deedsL xs = some ds ∧ 1 ≤ xs.length ∧ xs.length ≤ 16 := by
  unfold doP at h
  split at h
  · rename_i hh; exact ⟨h, hh⟩
  · cases h
theorem doP_fine {xs : List St} {ds : List De} (h : doP xs = some ds) : ds.length = xs.length ∧ (∀ d ∈ ds, d.fine = true ∧ d.text.size ≤ 116) := by
  obtain ⟨h1, h2, h3⟩ := doP_some h
  obtain ⟨h4, h5⟩ := (deedsL_some xs ds).1 h1
  refine ⟨h4, fun d hd => ?_⟩
  obtain ⟨j, hj, rfl⟩ := List.getElem_of_mem hd
  have h6 := doS_some (h5 j (by omega) hj)
  exact ⟨h6.1, h6.2.2⟩
/-- As the model asks it. -/
theorem doP_all (xs : List St) : (doP xs).isSome = ((xs.all fun s => (doS s).isSome) && (decide (1 ≤ xs.length) && decide (xs.length ≤ 16))) := by
  unfold doP
  by_cases h : 1 ≤ xs.length ∧ xs.length ≤ 16
  · rw [if_pos h]
    simp only [h.1, h.2, decide_true, Bool.and_true]
    clear h
    induction xs with
    | nil => rfl
    | cons x xs ih =>
      rw [List.all_cons, ← ih]
      simp only [deedsL]
      cases doS x with
      | none => rfl
      | some d => cases deedsL xs <;> rfl
  · rw [if_neg h]
    have : (decide (1 ≤ xs.length) && decide (xs.length ≤ 16)) = false := by
      rw [Bool.eq_false_iff]
      intro h2
      simp only [Bool.and_eq_true, decide_eq_true_eq] at h2
      exact h h2
    rw [this]
    simp
end Go.Proofs.YtabignplhkbcpaaGreatDoor

namespace Go.Proofs.YtabignplhkbcpaaGreatDoor

/-- The line has the types that it must have. -/
def fitsD (ss vs : List ByteArray) : De → Bool
  | .noD => true
  | .letD _ t p => decide (p.typ ss vs = t)
  | .sayD p => decide (¬ p.typ ss vs = ByteArray.empty)
  | .whenD p q => decide (p.typ ss vs = sBool) && decide (¬ q.typ ss vs = ByteArray.empty)
def toldS (ss : List ByteArray) : De → List ByteArray
  | .letD n _ _ => ss ++ [n]
  | _ => ss
def toldV (vs : List ByteArray) : De → List ByteArray
  | .letD _ t _ => vs ++ [t]
  | _ => vs
/-- The first line, from number i on, that has not the types that it must have; -1, if there is none. -/
def typeFrom : List De → List ByteArray → List ByteArray → Nat → Int
  | [], _, _, _ => -1
  | d :: ds, ss, vs, i => if fitsD ss vs d = true then typeFrom ds (toldS ss d) (toldV vs d) (i + 1) else (i : Int)
def typeP (xs : List St) : Int := match doP xs with
  | none => -2
  | some ds => typeFrom ds [] [] 0
theorem toldS_le (ss : List ByteArray) (d : De) : (toldS ss d).length ≤ ss.length + 1 := by cases d <;> simp [toldS]
theorem told_len {ss vs : List ByteArray} (h : ss.length = vs.length) (d : De) : (toldS ss d).length = (toldV vs d).length := by cases d <;> simp [toldS, toldV, h]
theorem typeFrom_at {ds : List De} {j : Nat} (hj : j < ds.length) (ss vs : List ByteArray) : typeFrom (ds.drop j) ss vs j = if fitsD ss vs ds[j] = true then typeFrom (ds.drop (j + 1)) (toldS ss ds[j]) (toldV vs ds[j]) (j + 1) else (j : Int) := by
  rw [List.drop_eq_getElem_cons hj, typeFrom]
theorem typeFrom_end {ds : List De} {j : Nat} (hj : ds.length ≤ j) (ss vs : List ByteArray) : typeFrom (ds.drop j) ss vs j = -1 := by
  rw [List.drop_eq_nil_of_le hj]; rfl

/-- What a line comes to, where names are told: none, if something can not be reckoned; else what it says. -/
def saysD (ss : List ByteArray) (vs : List Int) : De → Option (List Int)
  | .noD => some []
  | .letD _ _ p => (p.of ss vs).map fun _ => []
  | .sayD p => (p.of ss vs).map fun n => [n]
  | .whenD p q => (p.of ss vs).bind fun a => (q.of ss vs).map fun n => if a = 0 then [] else [n]
def toldI (ss : List ByteArray) (vs : List Int) : De → List Int
  | .letD _ _ p => vs ++ [(p.of ss vs).getD 0]
  | _ => vs
/-- All that lines say, behind what was said, and whether all could be reckoned. -/
def runFrom : List De → List ByteArray → List Int → List Int → List Int × Bool
  | [], _, _, out => (out, true)
  | d :: ds, ss, vs, out => match saysD ss vs d with
    | none => (out, false)
    | some ns => runFrom ds (toldS ss d) (toldI ss vs d) (out ++ ns)
def runP (xs : List St) : List Int × Bool := match doP xs with
  | none => ([], false)
  | some ds => runFrom ds [] [] []
theorem toldI_len {ss : List ByteArray} {vs : List Int} (h : ss.length = vs.length) (d : De) : (toldS ss d).length = (toldI ss vs d).length := by cases d <;> simp [toldS, toldI, h]
theorem runFrom_at {ds : List De} {j : Nat} (hj : j < ds.length) (ss : List ByteArray) (vs out : List Int) : runFrom (ds.drop j) ss vs out = match saysD ss vs ds[j] with
    | none => (out, false)
    | some ns => runFrom (ds.drop (j + 1)) (toldS ss ds[j]) (toldI ss vs ds[j]) (out ++ ns) := by
  rw [List.drop_eq_getElem_cons hj, runFrom]
theorem runFrom_end {ds : List De} {j : Nat} (hj : ds.length ≤ j) (ss : List ByteArray) (vs out : List Int) : runFrom (ds.drop j) ss vs out = (out, true) := by
  rw [List.drop_eq_nil_of_le hj]; rfl
end Go.Proofs.YtabignplhkbcpaaGreatDoor
