/-
  Plain mathematics of places in texts. No Go.
-/
import Derived.Test.YtnpcohbbjfjjaaaTextMath
namespace Go.Proofs.Ytnpcohbbjfjjaaa

def posStep (p : Nat × Nat) (c : UInt8) : Nat × Nat := if c = 10 then (p.1 + 1, 0) else (p.1, p.2 + 1)
/-- The place behind these bytes, from a place on. -/
def posFrom (p : Nat × Nat) (l : List UInt8) : Nat × Nat := l.foldl posStep p
/-- The place of a byte. -/
def posTo (s : ByteArray) (off : Nat) : Nat × Nat := posFrom (0, 0) ((L s).take off)

theorem posFrom_snoc (p : Nat × Nat) (l : List UInt8) (c : UInt8) : posFrom p (l ++ [c]) = posStep (posFrom p l) c := by simp [posFrom]
theorem posTo_succ (s : ByteArray) (k : Nat) (h : k < s.size) : posTo s (k + 1) = posStep (posTo s k) s[k] := by
  unfold posTo
  rw [List.take_succ_eq_append_getElem (by rw [L_length]; exact h), posFrom_snoc]
  rfl

theorem posFrom_shift (l : List UInt8) : ∀ (a b : Nat), posFrom (a + 1, b) l = ((posFrom (a, b) l).1 + 1, (posFrom (a, b) l).2) := by
  induction l with
  | nil => intro a b; rfl
  | cons c l ih =>
    intro a b
    by_cases h : c = 10
    · show posFrom (posStep (a + 1, b) c) l = _
      simp only [posStep, h, if_true]
      rw [ih (a + 1) 0]
      simp [posFrom, posStep]
    · show posFrom (posStep (a + 1, b) c) l = _
      simp only [posStep, h, if_false]
      rw [ih a (b + 1)]
      simp [posFrom, posStep, h]

/-- Where lines begin. -/
def beg (l : List (Nat × Nat)) : List Nat := l.map (·.1)

theorem beg_form (l : List UInt8) : ∀ b k, ∃ tl, beg (cuts b k l) = b :: tl ∧ ∀ x ∈ tl, k < x := by
  induction l with
  | nil => intro b k; exact ⟨[], rfl, by simp⟩
  | cons c l ih =>
    intro b k
    by_cases h : c = 10
    · obtain ⟨tl, e, hx⟩ := ih (k + 1) (k + 1)
      refine ⟨(k + 1) :: tl, by simp only [cuts, h, if_true]; simp only [beg, List.map_cons] at e ⊢; rw [e], ?_⟩
      intro x hx'
      rcases List.mem_cons.1 hx' with rfl | hx'
      · omega
      · have := hx x hx'; omega
    · obtain ⟨tl, e, hx⟩ := ih b (k + 1)
      exact ⟨tl, by simp only [cuts, h, if_false]; exact e, fun x hx' => by have := hx x hx'; omega⟩

theorem beg_sorted (l : List UInt8) : ∀ b k, b ≤ k → (beg (cuts b k l)).Pairwise (· ≤ ·) := by
  induction l with
  | nil => intro b k _; simp [cuts, beg]
  | cons c l ih =>
    intro b k hbk
    by_cases h : c = 10
    · simp only [cuts, h, if_true]
      obtain ⟨tl, e, hx⟩ := beg_form l (k + 1) (k + 1)
      have hs := ih (k + 1) (k + 1) (Nat.le_refl _)
      simp only [beg, List.map_cons] at e hs ⊢
      refine List.pairwise_cons.2 ⟨?_, hs⟩
      intro x hx'
      rw [e] at hx'
      rcases List.mem_cons.1 hx' with rfl | hx'
      · omega
      · have := hx x hx'; omega
    · simp only [cuts, h, if_false]
      exact ih b (k + 1) (by omega)

/-- A byte and its place. -/
theorem pos_main (l : List UInt8) : ∀ (b k off : Nat), b ≤ k → k ≤ off → off ≤ k + l.length →
    ∃ e, (cuts b k l)[(posFrom (0, k - b) (l.take (off - k))).1]? = some (off - (posFrom (0, k - b) (l.take (off - k))).2, e) ∧ (posFrom (0, k - b) (l.take (off - k))).2 ≤ off ∧ off ≤ e ∧
      (beg (cuts b k l)).countP (fun x => decide (x < off)) = (if (posFrom (0, k - b) (l.take (off - k))).2 = 0 then (posFrom (0, k - b) (l.take (off - k))).1 else (posFrom (0, k - b) (l.take (off - k))).1 + 1) ∧
      (off ∈ beg (cuts b k l) ↔ (posFrom (0, k - b) (l.take (off - k))).2 = 0) := by
  induction l with
  | nil =>
    intro b k off hbk hko hof
    obtain rfl : off = k := by simp at hof; omega
    refine ⟨off, ?_⟩
    simp only [List.take_nil, posFrom, List.foldl_nil, cuts, beg, List.map_cons, List.map_nil, List.getElem?_cons_zero]
    refine ⟨by congr 2; omega, by omega, Nat.le_refl _, ?_, ?_⟩
    · by_cases h : b = off
      · simp [h]
      · rw [if_neg (by omega)]; simp; omega
    · simp; omega
  | cons c l ih =>
    intro b k off hbk hko hof
    by_cases hk : off = k
    · subst hk
      obtain ⟨tl, e, hx⟩ := beg_form (c :: l) b off
      have hc0 : ∃ ee, (cuts b off (c :: l))[0]? = some (b, ee) ∧ off ≤ ee := by
        have gen : ∀ (l : List UInt8) (b k : Nat), ∃ ee, (cuts b k l)[0]? = some (b, ee) ∧ k ≤ ee := by
          intro l
          induction l with
          | nil => intro b k; exact ⟨k, rfl, Nat.le_refl _⟩
          | cons d l ih =>
            intro b k
            by_cases h : d = 10
            · exact ⟨k, by simp [cuts, h], Nat.le_refl _⟩
            · obtain ⟨ee, h1, h2⟩ := ih b (k + 1)
              exact ⟨ee, by simp only [cuts, h, if_false]; exact h1, by omega⟩
        exact gen (c :: l) b off
      obtain ⟨ee, h1, h2⟩ := hc0
      refine ⟨ee, ?_⟩
      simp only [Nat.sub_self, List.take_zero, posFrom, List.foldl_nil]
      have hb : off - (off - b) = b := by omega
      rw [hb]
      refine ⟨h1, by omega, h2, ?_, ?_⟩
      · rw [e, List.countP_cons]
        have : tl.countP (fun x => decide (x < off)) = 0 := by
          rw [List.countP_eq_zero]
          intro x hx'
          have := hx x hx'
          simp; omega
        rw [this]
        by_cases h : b = off
        · simp [h]
        · have h6 : ¬ (off - b = 0) := by omega
          have h7 : decide (b < off) = true := by simp; omega
          rw [if_neg h6, h7]; rfl
      · rw [e, List.mem_cons]
        constructor
        · rintro (h | h)
          · omega
          · have := hx off h; omega
        · intro h; exact .inl (by omega)
    · have htake : (c :: l).take (off - k) = c :: l.take (off - (k + 1)) := by
        obtain ⟨m, hm⟩ : ∃ m, off - k = m + 1 := ⟨off - k - 1, by omega⟩
        rw [hm, List.take_succ_cons]; congr 2; omega
      rw [htake]
      by_cases h : c = 10
      · have hp : posFrom (0, k - b) (c :: l.take (off - (k + 1))) = posFrom (0 + 1, 0) (l.take (off - (k + 1))) := by simp [posFrom, posStep, h]
        rw [hp, posFrom_shift]
        obtain ⟨e, h1, h2, h3, h4, h5⟩ := ih (k + 1) (k + 1) off (Nat.le_refl _) (by omega) (by simp at hof; omega)
        rw [Nat.sub_self] at h1 h2 h4 h5
        refine ⟨e, ?_⟩
        simp only [cuts, h, if_true, List.getElem?_cons_succ]
        refine ⟨h1, h2, h3, ?_, ?_⟩
        · show (b :: beg (cuts (k + 1) (k + 1) l)).countP _ = _
          rw [List.countP_cons, h4]
          have : decide (b < off) = true := by simp; omega
          rw [this]
          by_cases hz : (posFrom (0, 0) (l.take (off - (k + 1)))).2 = 0
          · rw [if_pos hz, if_pos hz]; simp
          · rw [if_neg hz, if_neg hz]; simp
        · show off ∈ b :: beg (cuts (k + 1) (k + 1) l) ↔ _
          rw [List.mem_cons, h5]
          constructor
          · rintro (hb | hb)
            · omega
            · exact hb
          · exact .inr
      · have hp : posFrom (0, k - b) (c :: l.take (off - (k + 1))) = posFrom (0, k + 1 - b) (l.take (off - (k + 1))) := by
          have : k - b + 1 = k + 1 - b := by omega
          simp [posFrom, posStep, h, this]
        rw [hp]
        simp only [cuts, h, if_false]
        exact ih b (k + 1) off (by omega) (by omega) (by simp at hof; omega)

theorem posTo_main (s : ByteArray) (off : Nat) (h : off ≤ s.size) :
    ∃ e, (lines s)[(posTo s off).1]? = some (off - (posTo s off).2, e) ∧ (posTo s off).2 ≤ off ∧ off ≤ e ∧
      (beg (lines s)).countP (fun x => decide (x < off)) = (if (posTo s off).2 = 0 then (posTo s off).1 else (posTo s off).1 + 1) ∧ (off ∈ beg (lines s) ↔ (posTo s off).2 = 0) :=
  pos_main (L s) 0 0 off (Nat.le_refl _) (Nat.zero_le _) (by rw [L_length]; omega)

/-- A place of a line is that of one byte. -/
theorem pos_back (l : List UInt8) : ∀ (b k i bi ei off : Nat), b ≤ k → (cuts b k l)[i]? = some (bi, ei) → bi ≤ off → off ≤ ei → k ≤ off → posFrom (0, k - b) (l.take (off - k)) = (i, off - bi) := by
  induction l with
  | nil =>
    intro b k i bi ei off hbk hi h1 h2 h3
    match i, hi with
    | 0, hi =>
      simp [cuts] at hi
      obtain ⟨rfl, rfl⟩ := hi
      obtain rfl : off = k := by omega
      simp [posFrom]
    | i + 1, hi => simp [cuts] at hi
  | cons c l ih =>
    intro b k i bi ei off hbk hi h1 h2 h3
    by_cases h : c = 10
    · simp only [cuts, h, if_true] at hi
      match i, hi with
      | 0, hi =>
        simp at hi
        obtain ⟨rfl, rfl⟩ := hi
        obtain rfl : off = k := by omega
        simp [posFrom]
      | i + 1, hi =>
        simp only [List.getElem?_cons_succ] at hi
        have hb1 : k + 1 ≤ bi := by
          obtain ⟨tl, e, hx⟩ := beg_form l (k + 1) (k + 1)
          have : bi ∈ beg (cuts (k + 1) (k + 1) l) := List.mem_map.2 ⟨(bi, ei), List.mem_of_getElem? hi, rfl⟩
          rw [e] at this
          rcases List.mem_cons.1 this with rfl | hm
          · exact Nat.le_refl _
          · have := hx bi hm; omega
        have := ih (k + 1) (k + 1) i bi ei off (Nat.le_refl _) hi h1 h2 (by omega)
        rw [Nat.sub_self] at this
        obtain ⟨m, hm⟩ : ∃ m, off - k = m + 1 := ⟨off - k - 1, by omega⟩
        have e2 : off - (k + 1) = m := by omega
        rw [e2] at this
        rw [hm, List.take_succ_cons]
        have hp : posFrom (0, k - b) (c :: l.take m) = posFrom (0 + 1, 0) (l.take m) := by simp [posFrom, posStep, h]
        rw [hp, posFrom_shift, this]
    · simp only [cuts, h, if_false] at hi
      by_cases hk : off = k
      · subst hk
        obtain ⟨tl, e, hx⟩ := beg_form l b (off + 1)
        match i, hi with
        | 0, hi =>
          have : (beg (cuts b (off + 1) l))[0]? = some bi := by simp [beg, hi]
          rw [e] at this
          simp at this
          subst this
          simp [posFrom]
        | i + 1, hi =>
          have : (beg (cuts b (off + 1) l))[i + 1]? = some bi := by simp [beg, hi]
          rw [e] at this
          simp only [List.getElem?_cons_succ] at this
          have := hx bi (List.mem_of_getElem? this)
          omega
      · have := ih b (k + 1) i bi ei off (by omega) hi h1 h2 (by omega)
        obtain ⟨m, hm⟩ : ∃ m, off - k = m + 1 := ⟨off - k - 1, by omega⟩
        have e2 : off - (k + 1) = m := by omega
        rw [e2] at this
        rw [hm, List.take_succ_cons]
        have hp : posFrom (0, k - b) (c :: l.take m) = posFrom (0, k + 1 - b) (l.take m) := by
          have : k - b + 1 = k + 1 - b := by omega
          simp [posFrom, posStep, h, this]
        rw [hp, this]

theorem posTo_back (s : ByteArray) (i bi ei off : Nat) (hi : (lines s)[i]? = some (bi, ei)) (h1 : bi ≤ off) (h2 : off ≤ ei) : posTo s off = (i, off - bi) :=
  pos_back (L s) 0 0 i bi ei off (Nat.le_refl _) hi h1 h2 (Nat.zero_le _)

/-- Where a line ends. -/
theorem ends_main (l : List UInt8) : ∀ (b k i : Nat) (x y : Nat × Nat), b ≤ k → (cuts b k l)[i]? = some x → x.1 ≤ x.2 ∧ x.2 ≤ k + l.length ∧
    ((cuts b k l)[i + 1]? = some y → y.1 = x.2 + 1) ∧ (i + 1 = (cuts b k l).length → x.2 = k + l.length) := by
  induction l with
  | nil =>
    intro b k i x y hbk hi
    match i, hi with
    | 0, hi =>
      simp [cuts] at hi
      subst hi
      simp [cuts, hbk]
    | i + 1, hi => simp [cuts] at hi
  | cons c l ih =>
    intro b k i x y hbk hi
    by_cases h : c = 10
    · simp only [cuts, h, if_true] at hi ⊢
      match i, hi with
      | 0, hi =>
        simp at hi
        subst hi
        refine ⟨hbk, by simp, ?_, ?_⟩
        · intro hy
          obtain ⟨tl, e, _⟩ := beg_form l (k + 1) (k + 1)
          have h0 : (beg (cuts (k + 1) (k + 1) l))[0]? = some y.1 := by
            simp only [List.getElem?_cons_succ] at hy
            simp [beg, hy]
          rw [e] at h0
          simp at h0
          exact h0.symm
        · intro hl
          obtain ⟨tl, e, _⟩ := beg_form l (k + 1) (k + 1)
          have : (beg (cuts (k + 1) (k + 1) l)).length = tl.length + 1 := by rw [e]; rfl
          simp [beg] at this hl
          rw [hl] at this
          simp at this
      | i + 1, hi =>
        simp only [List.getElem?_cons_succ] at hi ⊢
        obtain ⟨a1, a2, a3, a4⟩ := ih (k + 1) (k + 1) i x y (Nat.le_refl _) hi
        refine ⟨a1, by simp only [List.length_cons]; omega, a3, fun hl => ?_⟩
        have := a4 (by simpa using hl)
        simp only [List.length_cons]; omega
    · simp only [cuts, h, if_false] at hi ⊢
      obtain ⟨a1, a2, a3, a4⟩ := ih b (k + 1) i x y (by omega) hi
      refine ⟨a1, by simp only [List.length_cons]; omega, a3, fun hl => ?_⟩
      have := a4 hl
      simp only [List.length_cons]; omega

theorem lines_ne (s : ByteArray) : 0 < (lines s).length := by
  obtain ⟨tl, e, _⟩ := beg_form (L s) 0 0
  have : (beg (lines s)).length = tl.length + 1 := by unfold lines; rw [e]; rfl
  simp [beg] at this
  omega

end Go.Proofs.Ytnpcohbbjfjjaaa
