/-
  Programs with a line that is none, too many lines, and an empty line ahead.
-/
import Derived.Test.YtabignplhkbcpaaGreatDoorGU
namespace Go.Proofs.YtabignplhkbcpaaGreatDoor

def sayNone : St := ⟨2, ⟨#[]⟩, ⟨#[]⟩, .mk 0 0 ⟨#[]⟩ [], .mk 0 0 ⟨#[]⟩ []⟩
def emptyS : St := ⟨0, ⟨#[]⟩, ⟨#[]⟩, .mk 0 0 ⟨#[]⟩ [], .mk 0 0 ⟨#[]⟩ []⟩
theorem do_sayNone : doS sayNone = none := by kernel_rfl
theorem do_empty : doS emptyS = some .noD := by kernel_rfl
theorem deedsL_bad : ∀ (xs : List St) (s : St), doS s = none → deedsL (xs ++ [s]) = none := by
  intro xs s h
  refine deedsL_none (j := xs.length) (by simp) ?_
  simpa using h
theorem doP_bad (xs : List St) : doP (xs ++ [sayNone]) = none := by
  unfold doP
  split
  · exact deedsL_bad xs _ do_sayNone
  · rfl
theorem doP_long {xs : List St} (h : 16 < xs.length) : doP xs = none := by
  unfold doP
  rw [if_neg (by omega)]
theorem doP_nil : doP [] = none := rfl
theorem doP_ahead {xs : List St} {ds : List De} (h : doP xs = some ds) (hl : xs.length < 16) : doP (emptyS :: xs) = some (.noD :: ds) := by
  obtain ⟨h1, _, _⟩ := doP_some h
  unfold doP
  rw [if_pos ⟨by simp, by simp; omega⟩]
  have := deedsL_append [emptyS] xs [.noD] ds (by simp [deedsL, do_empty]) h1
  simpa using this
theorem bent_case {xs : List St} (h : (doP xs).isSome = true) (hl : xs.length < 16) : runP (emptyS :: xs) = runP xs ∧ ((typeP xs = -1 ∧ typeP (emptyS :: xs) = -1) ∨ (0 ≤ typeP xs ∧ typeP (emptyS :: xs) = typeP xs + 1)) := by
  cases hd : doP xs with
  | none => rw [hd] at h; cases h
  | some ds =>
    unfold runP typeP
    rw [hd, doP_ahead hd hl]
    refine ⟨run_empty ds, ?_⟩
    show (typeFrom ds [] [] 0 = -1 ∧ typeFrom (.noD :: ds) [] [] 0 = -1) ∨ (0 ≤ typeFrom ds [] [] 0 ∧ typeFrom (.noD :: ds) [] [] 0 = typeFrom ds [] [] 0 + 1)
    rw [type_empty]
    exact typeFrom_later ds [] [] 0
theorem ok_ahead {xs : List St} (h : (doP xs).isSome = true) : (doP (emptyS :: xs)).isSome = decide (xs.length < 16) := by
  cases hd : doP xs with
  | none => rw [hd] at h; cases h
  | some ds =>
    by_cases hl : xs.length < 16
    · rw [doP_ahead hd hl, decide_eq_true hl]; rfl
    · rw [doP_long (by simp; omega), decide_eq_false hl]; rfl
theorem ok_len {xs : List St} (h : (doP xs).isSome = true) : 1 ≤ xs.length ∧ xs.length ≤ 16 := by
  cases hd : doP xs with
  | none => rw [hd] at h; cases h
  | some ds => exact (doP_some hd).2
end Go.Proofs.YtabignplhkbcpaaGreatDoor
