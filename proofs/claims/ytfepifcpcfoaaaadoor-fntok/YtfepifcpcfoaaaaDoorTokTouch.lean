/-
  Plain mathematics of the words of a line: what is between two of them, and when two touch.
-/
import Derived.Test.YtfepifcpcfoaaaaDoorTokLaw
namespace Go.Proofs.YtfepifcpcfoaaaaDoor
open Go.RowKit

/-- A run that ends is not gone on with. -/
theorem takeWhile_stop {p : UInt8 → Bool} {t r : List UInt8} (h : (t ++ r).takeWhile p = t) : ∀ x, r.head? = some x → p x = false := by
  intro x hx
  cases r with
  | nil => cases hx
  | cons y r =>
    have e : y = x := by simpa using hx
    subst e
    induction t with
    | nil =>
      rw [List.nil_append, List.takeWhile_cons] at h
      cases hp : p y
      · rfl
      · rw [hp] at h; simp at h
    | cons d t ih =>
      rw [List.cons_append, List.takeWhile_cons] at h
      cases hp : p d
      · rw [hp] at h; simp at h
      · rw [hp] at h
        simp only [if_true] at h
        exact ih (by injection h)
theorem kind_one {w : List UInt8} (h : kindL w = 1) : wordL w = true := by
  unfold kindL at h
  cases hw : wordL w
  · rw [hw] at h
    simp at h
    split at h <;> (try split at h) <;> simp at h
  · rfl
theorem kind_two {w : List UInt8} (h : kindL w = 2) : decL w = true := by
  unfold kindL at h
  cases hw : decL w
  · rw [hw] at h
    simp at h
    split at h <;> (try split at h) <;> simp at h
  · rfl
theorem head_of_kind {w : List UInt8} (h0 : kindL w ≠ 0) : ∃ c t, w = c :: t ∧ (kindL w = 1 → isLet c = true) ∧ (kindL w = 2 → isDig c = true) := by
  cases w with
  | nil => exact absurd rfl h0
  | cons c t =>
    refine ⟨c, t, rfl, fun h => ?_, fun h => ?_⟩
    · have := kind_one h
      simp only [wordL, Bool.and_eq_true, List.all_cons] at this
      exact this.2.2.1
    · have := kind_two h
      simp only [decL, Bool.and_eq_true, List.all_cons] at this
      exact this.1.1
/-- Two words of one kind that touch are marks. -/
theorem touch {p w r : List UInt8} (hs : Starts p (w ++ r)) (hp : kindL p ≠ 0) (hw : kindL w ≠ 0) (he : kindL p = kindL w) : kindL w = 3 := by
  obtain ⟨c, t, rfl, hl, hd⟩ := head_of_kind hp
  obtain ⟨x, u, rfl, hxl, hxd⟩ := head_of_kind hw
  have hle : kindL (x :: u) ≤ 3 := by
    unfold kindL
    split
    · omega
    · split
      · omega
      · split <;> omega
  have hrun := hs.run c t rfl
  unfold runL at hrun
  by_cases h1 : kindL (x :: u) = 1
  · rw [if_pos (hl (he.trans h1))] at hrun
    have := takeWhile_stop hrun x rfl
    rw [hxl h1] at this; cases this
  · by_cases h2 : kindL (x :: u) = 2
    · have hcd := hd (he.trans h2)
      have hnl : ¬ isLet c = true := fun h => by rw [let_dig h] at hcd; cases hcd
      rw [if_neg hnl, if_pos hcd] at hrun
      have := takeWhile_stop hrun x rfl
      rw [hxd h2] at this; cases this
    · omega

/-- Behind the first k words of a line, at place a. -/
structure AtW (s : ByteArray) (ts : List Tk) (k a : Nat) : Prop where
  le : a ≤ s.size
  rest : toks a ((L s).drop a) = some (ts.drop k)
  prev : ∀ (hk : k - 1 < ts.length), 0 < k → ts[k - 1].col + ts[k - 1].s.length = a ∧ Starts ts[k - 1].s ((L s).drop a) ∧ ts[k - 1].kind = kindL ts[k - 1].s ∧ kindL ts[k - 1].s ≠ 0
theorem AtW.zero {s : ByteArray} {ts : List Tk} (h : toks 0 (L s) = some ts) : AtW s ts 0 0 := ⟨Nat.zero_le _, by rw [List.drop_zero, List.drop_zero]; exact h, fun _ h => absurd h (Nat.lt_irrefl _)⟩
theorem drop_spaces {s : ByteArray} {a m : Nat} {q : List UInt8} (h : (L s).drop a = List.replicate m 32 ++ q) : ∀ j, j < m → ∃ hj : a + j < s.size, s[a + j] = 32 := by
  intro j hj
  have h1 : ((L s).drop a)[j]? = some 32 := by rw [h, List.getElem?_append_left (by simpa using hj), List.getElem?_replicate, if_pos hj]
  rw [List.getElem?_drop] at h1
  obtain ⟨hlt, he⟩ := List.getElem?_eq_some_iff.1 h1
  rw [L_length] at hlt
  exact ⟨hlt, he⟩
theorem AtW.step {s : ByteArray} {ts : List Tk} {k a : Nat} (h : AtW s ts k a) (hk : k < ts.length) : ∃ (m : Nat) (w : List UInt8), ts[k] = ⟨kindL w, w, a + m⟩ ∧ a + m + w.length ≤ s.size ∧ (∀ j, j < m → ∃ hj : a + j < s.size, s[a + j] = 32) ∧ cutL s (a + m) (a + m + w.length) = w ∧ kindL w ≠ 0 ∧ AtW s ts (k + 1) (a + m + w.length) ∧
    (∀ (hk1 : k - 1 < ts.length), 0 < k → m = 0 → ts[k - 1].kind = kindL w → kindL w = 3) := by
  rcases toks_step _ _ _ h.rest with ⟨h1, _⟩ | ⟨m, w, r, ts', h1, h2, h3, h4, h5⟩
  · have := congrArg List.length h1
    rw [List.length_drop] at this
    simp at this
    omega
  · have hcons := List.drop_eq_getElem_cons hk
    rw [h2] at hcons
    have e1 := (List.cons.inj hcons).1
    have e2 := (List.cons.inj hcons).2
    have hlen := congrArg List.length h1
    rw [List.length_drop, L_length, List.length_append, List.length_append, List.length_replicate] at hlen
    have hwl : 1 ≤ w.length := by
      have := h5.ne
      cases w with
      | nil => exact absurd rfl this
      | cons c t => simp
    have hd1 : (L s).drop (a + m) = w ++ r := by
      rw [← List.drop_drop, h1, List.drop_append_of_le_length (by simp), List.drop_eq_nil_of_le (by simp), List.nil_append]
    have hd2 : (L s).drop (a + m + w.length) = r := by
      rw [← List.drop_drop, hd1, List.drop_left]
    refine ⟨m, w, e1.symm, by have := h.le; omega, drop_spaces h1, ?_, h4, ⟨by have := h.le; omega, by rw [hd2, h3, e2], ?_⟩, ?_⟩
    · have := cutL_drop s (a + m) (a + m + w.length) (by omega) (by have := h.le; omega)
      rw [hd1, hd2] at this
      exact (List.append_cancel_right this).symm
    · intro hk1 _
      have hkk : ts[k + 1 - 1] = ⟨kindL w, w, a + m⟩ := e1.symm
      rw [hkk]
      exact ⟨rfl, by rw [hd2]; exact h5, rfl, h4⟩
    · intro hk1 h0 hm0 hke
      obtain ⟨_, p2, p3, p4⟩ := h.prev hk1 h0
      subst hm0
      rw [show (L s).drop a = w ++ r from hd1] at p2
      exact touch p2 p4 h4 (by rw [← p3, hke])
theorem AtW.done {s : ByteArray} {ts : List Tk} {k a : Nat} (h : AtW s ts k a) (hk : k = ts.length) : ∀ j, a ≤ j → (hj : j < s.size) → s[j] = 32 := by
  have hr := h.rest
  rw [hk, List.drop_length] at hr
  rcases toks_step _ _ _ hr with ⟨_, h2⟩ | ⟨m, w, r, ts', _, h2, _⟩
  · intro j haj hj
    have h3 : (L s).drop a = List.replicate ((L s).drop a).length 32 ++ [] := by rw [List.append_nil]; exact h2
    obtain ⟨_, h4⟩ := drop_spaces h3 (j - a) (by rw [List.length_drop, L_length]; omega)
    simp only [show a + (j - a) = j by omega] at h4
    exact h4
  · cases h2
end Go.Proofs.YtfepifcpcfoaaaaDoor
