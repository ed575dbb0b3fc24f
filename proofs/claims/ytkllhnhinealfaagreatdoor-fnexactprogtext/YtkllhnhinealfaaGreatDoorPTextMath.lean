/-
  Plain mathematics of a program's text.
-/
import Derived.Test.YtkllhnhinealfaaGreatDoorProgMath
import Derived.Test.YtkllhnhinealfaaGreatDoorImplStmt
import Derived.Test.YtkllhnhinealfaaGreatDoorJoinLines
namespace Go.Proofs.YtkllhnhinealfaaGreatDoor

/-- The text of a program, the empty text of what is none. -/
def textP (xs : List St) : ByteArray := if (doP xs).isSome = true then joinN (xs.map textS) xs.length else ByteArray.empty
theorem textS_deeds {xs : List St} {ds : List De} (h : doP xs = some ds) : ds.map De.text = xs.map textS := by
  obtain ⟨h1, _, _⟩ := doP_some h
  obtain ⟨h2, h3⟩ := (deedsL_some xs ds).1 h1
  refine List.ext_getElem (by simp [h2]) fun j q1 q2 => ?_
  simp only [List.getElem_map]
  have h4 := h3 j (by simpa using q2) (by simpa using q1)
  unfold textS
  rw [h4]
theorem textP_some {xs : List St} {ds : List De} (h : doP xs = some ds) : textP xs = joinN (ds.map De.text) (ds.map De.text).length := by
  unfold textP
  rw [h, textS_deeds h]
  simp
theorem textP_none {xs : List St} (h : doP xs = none) : textP xs = ByteArray.empty := by
  unfold textP
  rw [h]
  rfl
theorem tot_le (ss : List ByteArray) : (∀ s ∈ ss, s.size ≤ 116) → tot ss ≤ 117 * ss.length := by
  intro h
  have aux : ∀ k, k ≤ ss.length → tot (ss.take k) ≤ 117 * k := by
    intro k
    induction k with
    | zero => intro _; simp [tot]
    | succ k ih =>
      intro hk
      have h1 := ih (by omega)
      have h2 := h ss[k] (List.getElem_mem (by omega))
      rw [tot_take_succ ss k (by omega)]
      omega
  have := aux ss.length (Nat.le_refl _)
  rwa [List.take_length] at this
theorem texts_tot {xs : List St} {ds : List De} (h : doP xs = some ds) : tot (ds.map De.text) ≤ 2 ^ 40 ∧ tot (xs.map textS) ≤ 2 ^ 40 ∧ ds.length ≤ 16 := by
  obtain ⟨h1, h2⟩ := doP_fine h
  obtain ⟨_, _, h3⟩ := doP_some h
  have h4 := tot_le (ds.map De.text) (fun s hs => by obtain ⟨d, hd, rfl⟩ := List.mem_map.1 hs; exact (h2 d hd).2)
  rw [List.length_map] at h4
  rw [← textS_deeds h]
  exact ⟨by omega, by omega, by omega⟩
end Go.Proofs.YtkllhnhinealfaaGreatDoor
