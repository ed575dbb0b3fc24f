/-
  Plain mathematics of brackets: those of a part's words are balanced, and none is around all of them. No Go.
-/
import Derived.Test.YtggdlldagaggiaaGreatDoorExRead
namespace Go.Proofs.YtggdlldagaggiaaGreatDoor

/-- By how much more brackets are open behind a word. -/
def brk (s : ByteArray) : Int := if s = sLp then 1 else if s = sRp then -1 else 0
def dep : List ByteArray → Int
  | [] => 0
  | s :: l => brk s + dep l
theorem dep_append (xs ys : List ByteArray) : dep (xs ++ ys) = dep xs + dep ys := by
  induction xs with
  | nil => simp [dep]
  | cons x xs ih => simp only [List.cons_append, dep, ih]; omega
theorem dep_le (xs : List ByteArray) : dep xs ≤ xs.length := by
  induction xs with
  | nil => simp [dep]
  | cons x xs ih =>
    have : brk x ≤ 1 := by unfold brk; split; · omega
                           · split <;> omega
    simp only [dep, List.length_cons]; omega
def Bal (l : List ByteArray) : Prop := dep l = 0 ∧ ∀ i, 0 ≤ dep (l.take i)
theorem bal_append {xs ys : List ByteArray} (h1 : Bal xs) (h2 : Bal ys) : Bal (xs ++ ys) := by
  refine ⟨by rw [dep_append, h1.1, h2.1]; rfl, fun i => ?_⟩
  rw [List.take_append, dep_append]
  have a := h1.2 i
  have b := h2.2 (i - xs.length)
  omega
theorem bal_one {s : ByteArray} (h1 : s ≠ sLp) (h2 : s ≠ sRp) : Bal [s] := by
  have hb : brk s = 0 := by unfold brk; rw [if_neg h1, if_neg h2]
  refine ⟨by simp [dep, hb], fun i => ?_⟩
  cases i with
  | zero => simp [dep]
  | succ i => simp [dep, hb]
theorem take_wrap (l : List ByteArray) (i : Nat) : 0 < i → i ≤ l.length + 1 → ([sLp] ++ l ++ [sRp]).take i = sLp :: l.take (i - 1) := by
  intro h0 h1
  obtain ⟨j, rfl⟩ : ∃ j, i = j + 1 := ⟨i - 1, by omega⟩
  simp only [List.cons_append, List.nil_append, List.take_succ_cons, Nat.add_sub_cancel]
  rw [List.take_append_of_le_length (by omega)]
theorem brk_lp : brk sLp = 1 := by decide
theorem brk_rp : brk sRp = -1 := by decide
theorem bal_wrap {b : Bool} {l : List ByteArray} (h : Bal l) : Bal (wrapW b l) := by
  unfold wrapW
  split
  · refine ⟨by rw [dep_append, dep_append, h.1]; simp [dep, brk_lp, brk_rp], fun i => ?_⟩
    rcases Nat.eq_zero_or_pos i with rfl | hi
    · simp [dep]
    · by_cases hl : i ≤ l.length + 1
      · rw [take_wrap l i hi hl]
        have := h.2 (i - 1)
        simp only [dep, brk_lp]; omega
      · rw [List.take_of_length_le (by simp; omega), dep_append, dep_append, h.1]; simp [dep, brk_lp, brk_rp]
  · exact h
theorem dec_rp {s : ByteArray} (h : decL (L s) = true) : s ≠ sRp := by rintro rfl; revert h; decide
theorem name_rp {s : ByteArray} (h : nameB s = true) : s ≠ sRp := by rintro rfl; revert h; decide
theorem hold_lp {s : ByteArray} (h : hold s ≠ 0) : s ≠ sLp := by rintro rfl; revert h; decide
theorem hold_rp {s : ByteArray} (h : hold s ≠ 0) : s ≠ sRp := by rintro rfl; revert h; decide
theorem type_lp {s : ByteArray} (h : typeB s = true) : s ≠ sLp := by rintro rfl; revert h; decide
theorem type_rp {s : ByteArray} (h : typeB s = true) : s ≠ sRp := by rintro rfl; revert h; decide
theorem bal_words (p : Pt) : p.fine = true → Bal p.words := by
  induction p with
  | num n =>
    intro h
    simp only [Pt.fine, Bool.and_eq_true, decide_eq_true_eq] at h
    exact bal_one (dec_lp (decS_dec h.2)) (dec_rp (decS_dec h.2))
  | name s => intro h; exact bal_one (name_lp h) (name_rp h)
  | two s a b ia ib =>
    intro h
    simp only [Pt.fine, Bool.and_eq_true, decide_eq_true_eq] at h
    exact bal_append (bal_append (bal_wrap (ia h.2.1)) (bal_one (hold_lp h.1) (hold_rp h.1))) (bal_wrap (ib h.2.2))
  | as s a ia =>
    intro h
    simp only [Pt.fine, Bool.and_eq_true] at h
    have e : [sAs, s] = [sAs] ++ [s] := rfl
    show Bal (wrapW _ a.words ++ [sAs, s])
    rw [e]
    exact bal_append (bal_wrap (ia h.2)) (bal_append (bal_one (by decide) (by decide)) (bal_one (type_lp h.1) (type_rp h.1)))
/-- With a bracket behind them they are no words. -/
theorem words_more {p q : Pt} (hp : p.fine = true) (hq : q.fine = true) : q.words ≠ p.words ++ [sRp] := by
  intro e
  have h1 := (bal_words q hq).1
  rw [e, dep_append, (bal_words p hp).1] at h1
  simp [dep, brk_rp] at h1
theorem wrap_pos (b : Bool) (p : Pt) : 1 ≤ (wrapW b p.words).length := by
  have := p.words_pos
  unfold wrapW; split <;> simp <;> omega
/-- With brackets around them they are no words. -/
theorem words_around {p q : Pt} (hp : p.fine = true) (hq : q.fine = true) : q.words ≠ [sLp] ++ p.words ++ [sRp] := by
  intro e
  have hl := congrArg List.length e
  have hpp := p.words_pos
  simp only [List.length_append, List.length_singleton] at hl
  cases q with
  | num n => simp [Pt.words] at hl
  | name s => simp [Pt.words] at hl
  | «as» s a =>
    simp only [Pt.fine, Bool.and_eq_true] at hq
    have e2 : wrapW (decide (a.lvl < 4)) a.words ++ [sAs] ++ [s] = [sLp] ++ p.words ++ [sRp] := by rw [← e]; simp [Pt.words]
    have e3 := List.append_inj_right' e2 rfl
    simp at e3
    exact type_rp hq.1 e3
  | two s a b =>
    simp only [Pt.fine, Bool.and_eq_true, decide_eq_true_eq] at hq
    have hb := (bal_wrap (b := decide (a.lvl < max (hold s) 2)) (bal_words a hq.2.1)).1
    have hw := wrap_pos (decide (a.lvl < max (hold s) 2)) a
    have hw2 : (Pt.two s a b).words = wrapW (decide (a.lvl < max (hold s) 2)) a.words ++ ([s] ++ wrapW (decide (b.lvl < hold s + 1)) b.words) := by simp [Pt.words]
    rw [hw2] at e hl
    generalize wrapW (decide (a.lvl < max (hold s) 2)) a.words = X at *
    generalize wrapW (decide (b.lvl < hold s + 1)) b.words = Y at *
    simp only [List.length_append, List.length_singleton] at hl
    have h3 := congrArg (List.take X.length) e
    rw [List.take_left, take_wrap p.words X.length (by omega) (by omega)] at h3
    rw [h3] at hb
    have h4 := (bal_words p hp).2 (X.length - 1)
    simp only [dep, brk_lp] at hb
    omega
theorem kind_word {s : ByteArray} (h : wordL (L s) = true) : kindL (L s) ≠ 0 := by unfold kindL; rw [h]; simp
theorem kind_words (p : Pt) : p.fine = true → ∀ s ∈ p.words, kindL (L s) ≠ 0 := by
  have hw : ∀ (b : Bool) (l : List ByteArray), (∀ s ∈ l, kindL (L s) ≠ 0) → ∀ s ∈ wrapW b l, kindL (L s) ≠ 0 := by
    intro b l h s hs
    unfold wrapW at hs
    split at hs
    · simp at hs
      rcases hs with rfl | hs | rfl
      · decide
      · exact h s hs
      · decide
    · exact h s hs
  have hd : ∀ s, decL (L s) = true → kindL (L s) ≠ 0 := by
    intro s h
    unfold kindL
    rw [h]
    by_cases hx : wordL (L s) = true <;> simp [hx]
  have hh : ∀ s, hold s ≠ 0 → kindL (L s) ≠ 0 := by
    intro s h
    have h1 : s = sLess ∨ s = sPlus ∨ s = sMinus ∨ s = sTimes := by
      unfold hold at h
      by_cases h1 : s = sLess
      · exact .inl h1
      by_cases h2 : s = sPlus
      · exact .inr (.inl h2)
      by_cases h3 : s = sMinus
      · exact .inr (.inr (.inl h3))
      by_cases h4 : s = sTimes
      · exact .inr (.inr (.inr h4))
      simp [h1, h2, h3, h4] at h
    rcases h1 with rfl | rfl | rfl | rfl <;> decide
  have ht : ∀ s, typeB s = true → kindL (L s) ≠ 0 := by
    intro s h
    simp only [typeB, Bool.or_eq_true, decide_eq_true_eq] at h
    rcases h with rfl | rfl <;> decide
  induction p with
  | num n =>
    intro h s hs
    simp only [Pt.fine, Bool.and_eq_true, decide_eq_true_eq] at h
    simp [Pt.words] at hs
    subst hs
    exact hd _ (decS_dec h.2)
  | name t =>
    intro h s hs
    simp [Pt.words] at hs
    subst hs
    exact kind_word (name_word h)
  | two t a b ia ib =>
    intro h s hs
    simp only [Pt.fine, Bool.and_eq_true, decide_eq_true_eq] at h
    simp only [Pt.words, List.mem_append, List.mem_singleton] at hs
    rcases hs with (hs | rfl) | hs
    · exact hw _ _ (ia h.2.1) s hs
    · exact hh _ h.1
    · exact hw _ _ (ib h.2.2) s hs
  | as t a ia =>
    intro h s hs
    simp only [Pt.fine, Bool.and_eq_true] at h
    simp only [Pt.words, List.mem_append, List.mem_cons, List.not_mem_nil, or_false] at hs
    rcases hs with hs | rfl | rfl
    · exact hw _ _ (ia h.2) s hs
    · decide
    · exact ht _ h.1
end Go.Proofs.YtggdlldagaggiaaGreatDoor
