/-
  What is without types: its words are no types, and no more than before.
-/
import Derived.Test.YtggdlldagaggiaaGreatDoorExRead
import Derived.Test.YtggdlldagaggiaaGreatDoorExLaws
namespace Go.Proofs.YtggdlldagaggiaaGreatDoor

def plainW (s : ByteArray) : Bool := !(decide (s = sAs) || typeB s)
theorem plainW_iff {s : ByteArray} : plainW s = true ↔ s ≠ sAs ∧ s ≠ sInt ∧ s ≠ sBool := by
  simp [plainW, typeB]
theorem name_plain {s : ByteArray} (h : nameB s = true) : plainW s = true := by
  have hh : heldB s = false := by simp only [nameB, Bool.and_eq_true, Bool.not_eq_true'] at h; exact h.2
  simp only [heldB, Bool.or_eq_false_iff] at hh
  simp [plainW, hh.2.2.2.1, hh.2.2.2.2.2.2]
theorem hold_plain {s : ByteArray} (h : hold s ≠ 0) : plainW s = true := by
  unfold hold at h
  by_cases h1 : s = sLess
  · rw [h1]; decide
  by_cases h2 : s = sPlus
  · rw [h2]; decide
  by_cases h3 : s = sMinus
  · rw [h3]; decide
  by_cases h4 : s = sTimes
  · rw [h4]; decide
  rw [if_neg h1, if_neg h2, if_neg h3, if_neg h4] at h
  exact absurd rfl h
theorem dec_plain {s : ByteArray} (h : decL (L s) = true) : plainW s = true := by
  rw [plainW_iff]
  refine ⟨?_, ?_, ?_⟩ <;> (rintro rfl; revert h; decide)
theorem wrap_plain {b : Bool} {ws : List ByteArray} (h : ∀ s ∈ ws, plainW s = true) : ∀ s ∈ wrapW b ws, plainW s = true := by
  intro s hs
  unfold wrapW at hs
  split at hs
  · simp only [List.mem_append, List.mem_singleton] at hs
    rcases hs with (rfl | hs) | rfl
    · decide
    · exact h s hs
    · decide
  · exact h s hs
theorem bare_plain (p : Pt) (h : p.fine = true) : ∀ s ∈ p.bare.words, plainW s = true := by
  induction p with
  | num n =>
    simp only [Pt.fine, Bool.and_eq_true, decide_eq_true_eq] at h
    intro s hs
    simp only [Pt.bare, Pt.words, List.mem_singleton] at hs
    subst hs
    exact dec_plain (decS_dec h.2)
  | name x =>
    intro s hs
    simp only [Pt.bare, Pt.words, List.mem_singleton] at hs
    subst hs
    exact name_plain h
  | two x a b ia ib =>
    simp only [Pt.fine, Bool.and_eq_true, decide_eq_true_eq] at h
    intro s hs
    simp only [Pt.bare, Pt.words, List.mem_append, List.mem_singleton] at hs
    rcases hs with (hs | rfl) | hs
    · exact wrap_plain (ia h.2.1) s hs
    · exact hold_plain h.1
    · exact wrap_plain (ib h.2.2) s hs
  | «as» x a ia =>
    simp only [Pt.fine, Bool.and_eq_true] at h
    exact ia h.2

theorem wrapW_len (b : Bool) (ws : List ByteArray) : (wrapW b ws).length = ws.length + if b then 2 else 0 := by unfold wrapW; split <;> simp
theorem wrapW_more (b : Bool) (ws : List ByteArray) : ws.length ≤ (wrapW b ws).length := by rw [wrapW_len]; omega
theorem bare_at (p : Pt) : ∀ t, (p.bare.at t).length ≤ (p.at t).length := by
  induction p with
  | num n => intro t; exact Nat.le_refl _
  | name s => intro t; exact Nat.le_refl _
  | two s a b ia ib =>
    intro t
    have h1 := ia (max (hold s) 2)
    have h2 := ib (hold s + 1)
    unfold Pt.at at h1 h2 ⊢
    rw [wrapW_len _ (Pt.two s a b).bare.words, wrapW_len _ (Pt.two s a b).words, show (Pt.two s a b).bare.lvl = (Pt.two s a b).lvl from rfl]
    refine Nat.add_le_add_right ?_ _
    simp only [Pt.bare, Pt.words, List.length_append, List.length_singleton]
    omega
  | «as» s a ia =>
    intro t
    have h1 := ia 0
    unfold Pt.at at h1 ⊢
    rw [wrapW_len, wrapW_len, show decide (a.bare.lvl < 0) = false by simp, show decide (a.lvl < 0) = false by simp] at h1
    have h2 := wrapW_length (decide (a.bare.lvl < t)) a.bare.words
    have h3 := wrapW_more (decide ((Pt.as s a).lvl < t)) (Pt.as s a).words
    have h4 := wrapW_more (decide (a.lvl < 4)) a.words
    have h5 : (Pt.as s a).words.length = (wrapW (decide (a.lvl < 4)) a.words).length + 2 := by simp only [Pt.words, List.length_append, List.length_cons, List.length_nil]
    show (wrapW (decide (a.bare.lvl < t)) a.bare.words).length ≤ _
    simp only [Bool.false_eq_true, if_false] at h1
    omega
theorem bare_words (p : Pt) : p.bare.words.length ≤ p.words.length := by
  have h := bare_at p 0
  unfold Pt.at at h
  rw [wrapW_len, wrapW_len, show decide (p.bare.lvl < 0) = false by simp, show decide (p.lvl < 0) = false by simp] at h
  simpa using h
end Go.Proofs.YtggdlldagaggiaaGreatDoor
