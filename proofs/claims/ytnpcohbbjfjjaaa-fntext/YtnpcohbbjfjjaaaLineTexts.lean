/-
  Plain mathematics of the lines of texts, as texts. No Go.
-/
import Derived.Test.YtnpcohbbjfjjaaaCollect
import Derived.Test.YtnpcohbbjfjjaaaMarks
namespace Go.Proofs.Ytnpcohbbjfjjaaa
open Go.RowKit

/-- What is between newlines. -/
def split : List UInt8 → List (List UInt8)
  | [] => [[]]
  | c :: l => if c = 10 then [] :: split l else match split l with
    | [] => [[c]]
    | h :: tl => (c :: h) :: tl
theorem split_ne (l : List UInt8) : split l ≠ [] := by
  cases l with
  | nil => simp [split]
  | cons c l =>
    simp only [split]
    split
    · simp
    · split <;> simp

theorem cuts_split (t : List UInt8) : ∀ (l : List UInt8) (b k : Nat), b ≤ k → t.drop k = l → k ≤ t.length →
    (cuts b k l).map (fun x => (t.take x.2).drop x.1) = match split l with
      | [] => []
      | h :: tl => ((t.take k).drop b ++ h) :: tl := by
  intro l
  induction l with
  | nil => intro b k _ _ _; simp [cuts, split]
  | cons c l ih =>
    intro b k hb hl hk
    have hlt : k < t.length := by
      rcases Nat.lt_or_ge k t.length with h | h
      · exact h
      · rw [List.drop_eq_nil_of_le h] at hl; cases hl
    have hc : t[k] = c := by rw [List.drop_eq_getElem_cons hlt] at hl; exact (List.cons.inj hl).1
    have hr : t.drop (k + 1) = l := by rw [List.drop_eq_getElem_cons hlt] at hl; exact (List.cons.inj hl).2
    by_cases h10 : c = 10
    · have h := ih (k + 1) (k + 1) (Nat.le_refl _) hr hlt
      simp only [cuts, split, h10, if_true, List.map_cons, List.append_nil]
      rw [h]
      cases hs : split l with
      | nil => exact absurd hs (split_ne l)
      | cons x xs => simp
    · have h := ih b (k + 1) (by omega) hr hlt
      simp only [cuts, split, h10, if_false]
      rw [h]
      have e : (t.take (k + 1)).drop b = (t.take k).drop b ++ [c] := by
        rw [List.take_succ_eq_append_getElem hlt, List.drop_append_of_le_length (by simp; omega), hc]
      cases hs : split l with
      | nil => exact absurd hs (split_ne l)
      | cons x xs => simp [e]

/-- The lines of a text, as texts. -/
def ltexts (s : ByteArray) : List ByteArray := (lines s).map (fun x => s.extract x.1 x.2)
theorem ltexts_split (s : ByteArray) : (ltexts s).map L = split (L s) := by
  have h := cuts_split (L s) (L s) 0 0 (Nat.le_refl _) rfl (Nat.zero_le _)
  unfold ltexts lines
  rw [List.map_map]
  have e : (L ∘ fun x : Nat × Nat => s.extract x.1 x.2) = fun x : Nat × Nat => ((L s).take x.2).drop x.1 := by
    funext x; exact L_extract s x.1 x.2
  rw [e, h]
  cases hs : split (L s) with
  | nil => exact absurd hs (split_ne _)
  | cons x xs => simp
theorem ltexts_length (s : ByteArray) : (ltexts s).length = (lines s).length := by simp [ltexts]
theorem linesV_ltexts (s : ByteArray) (h : okB s = true) : linesV s = (ltexts s).map strV := by
  unfold linesV ltexts; rw [h, List.map_map]; rfl

theorem L_inj {a b : ByteArray} (h : L a = L b) : a = b := by
  unfold L at h
  exact ByteArray.ext (Array.toList_inj.1 h)

/-- Two lists of lines, the last of the first and the first of the second being one. -/
def glue : List (List UInt8) → List (List UInt8) → List (List UInt8)
  | [], b => b
  | [x], y :: ys => (x ++ y) :: ys
  | [x], [] => [x]
  | x :: x' :: xs, b => x :: glue (x' :: xs) b

theorem split_append (a b : List UInt8) : split (a ++ b) = glue (split a) (split b) := by
  induction a with
  | nil =>
    cases hs : split b with
    | nil => exact absurd hs (split_ne b)
    | cons x xs => simp [split, glue, hs]
  | cons c a ih =>
    cases ha : split a with
    | nil => exact absurd ha (split_ne a)
    | cons x xs =>
      rw [ha] at ih
      by_cases h : c = 10
      · simp only [List.cons_append, split, h, if_true, ih, ha, glue]
      · simp only [List.cons_append, split, h, if_false, ih, ha]
        cases xs with
        | nil =>
          cases hb : split b with
          | nil => exact absurd hb (split_ne b)
          | cons y ys => simp [glue]
        | cons x' xs => simp [glue]

theorem glue_length (a b : List (List UInt8)) (ha : a ≠ []) (hb : b ≠ []) : (glue a b).length + 1 = a.length + b.length := by
  induction a with
  | nil => exact absurd rfl ha
  | cons x xs ih =>
    cases xs with
    | nil =>
      cases b with
      | nil => exact absurd rfl hb
      | cons y ys => simp [glue]; omega
    | cons x' xs =>
      have := ih (by simp)
      simp only [glue, List.length_cons] at this ⊢
      omega

theorem glue_get (a b : List (List UInt8)) (ha : a ≠ []) (hb : b ≠ []) : ∀ i,
    (i + 1 < a.length → (glue a b)[i]? = a[i]?) ∧ (i + 1 = a.length → ∃ x y, a[i]? = some x ∧ b[0]? = some y ∧ (glue a b)[i]? = some (x ++ y)) ∧ (a.length ≤ i → (glue a b)[i]? = b[i + 1 - a.length]?) := by
  induction a with
  | nil => exact absurd rfl ha
  | cons x xs ih =>
    cases xs with
    | nil =>
      cases b with
      | nil => exact absurd rfl hb
      | cons y ys =>
        intro i
        cases i with
        | zero => simp [glue]
        | succ i => simp [glue]
    | cons x' xs =>
      intro i
      cases i with
      | zero => simp [glue]
      | succ i =>
        obtain ⟨h1, h2, h3⟩ := ih (by simp) i
        simp only [glue, List.length_cons, List.getElem?_cons_succ] at h1 h2 h3 ⊢
        refine ⟨fun h => h1 (by omega), fun h => h2 (by omega), fun h => ?_⟩
        rw [h3 (by omega)]
        congr 1
        omega

theorem get_L {ss : List ByteArray} {i : Nat} {l : List UInt8} (h : (ss.map L)[i]? = some l) : ∃ t, ss[i]? = some t ∧ L t = l := by
  rw [List.getElem?_map] at h
  cases hs : ss[i]? with
  | none => rw [hs] at h; cases h
  | some t => rw [hs] at h; exact ⟨t, rfl, Option.some.inj h⟩

/-- The lines of two texts, one behind the other. -/
theorem cat_lines (s t : ByteArray) : (ltexts (s ++ t)).length + 1 = (ltexts s).length + (ltexts t).length ∧ 0 < (ltexts s).length ∧ 0 < (ltexts t).length ∧ ∀ i,
    (i + 1 < (ltexts s).length → (ltexts (s ++ t))[i]? = (ltexts s)[i]?) ∧
    (i + 1 = (ltexts s).length → ∃ x y, (ltexts s)[i]? = some x ∧ (ltexts t)[0]? = some y ∧ (ltexts (s ++ t))[i]? = some (x ++ y)) ∧
    ((ltexts s).length ≤ i → (ltexts (s ++ t))[i]? = (ltexts t)[i + 1 - (ltexts s).length]?) := by
  have es := ltexts_split s
  have et := ltexts_split t
  have ec := ltexts_split (s ++ t)
  have hL : L (s ++ t) = L s ++ L t := by simp [L]
  rw [hL, split_append] at ec
  have ls : (ltexts s).length = (split (L s)).length := by rw [← es]; simp
  have lt : (ltexts t).length = (split (L t)).length := by rw [← et]; simp
  have lc : (ltexts (s ++ t)).length = (glue (split (L s)) (split (L t))).length := by rw [← ec]; simp
  have hs := split_ne (L s)
  have ht := split_ne (L t)
  have ns : 0 < (split (L s)).length := List.length_pos_iff.2 hs
  have nt : 0 < (split (L t)).length := List.length_pos_iff.2 ht
  refine ⟨by rw [ls, lt, lc]; exact glue_length _ _ hs ht, by omega, by omega, fun i => ?_⟩
  obtain ⟨h1, h2, h3⟩ := glue_get _ _ hs ht i
  have same : ∀ {a b : List ByteArray} {p q : Nat}, (a.map L)[p]? = (b.map L)[q]? → a[p]? = b[q]? := by
    intro a b p q h
    rw [List.getElem?_map, List.getElem?_map] at h
    cases ha : a[p]? <;> cases hb : b[q]? <;> rw [ha, hb] at h <;> simp at h
    rw [L_inj h]
  refine ⟨fun h => same (by rw [ec, es]; exact h1 (by omega)), fun h => ?_, fun h => same (by rw [ec, et, ls]; exact h3 (by omega))⟩
  obtain ⟨x, y, hx, hy, hxy⟩ := h2 (by omega)
  rw [← es] at hx
  rw [← et] at hy
  rw [← ec] at hxy
  obtain ⟨x', hx1, hx2⟩ := get_L hx
  obtain ⟨y', hy1, hy2⟩ := get_L hy
  obtain ⟨z', hz1, hz2⟩ := get_L hxy
  refine ⟨x', y', hx1, hy1, ?_⟩
  rw [hz1]
  congr 1
  apply L_inj
  rw [hz2, ← hx2, ← hy2]
  simp [L]

end Go.Proofs.Ytnpcohbbjfjjaaa
