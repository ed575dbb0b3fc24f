/-
  Plain mathematics of texts: which texts are ok, where their lines lie. No Go.
-/
import Derived.Lib.Strings
namespace Go.Proofs.YtaclndbilpaboaaGreatDoor

def L (s : ByteArray) : List UInt8 := s.data.toList
theorem L_length (s : ByteArray) : (L s).length = s.size := (Go.Lib.size_eq s).symm
theorem L_drop (s : ByteArray) (k : Nat) (h : k < s.size) : (L s).drop k = s[k] :: (L s).drop (k + 1) := by
  unfold L
  rw [List.drop_eq_getElem_cons (by simpa using h)]
  rfl

/-- A byte that can be seen, or a space. -/
def plainC (c : UInt8) : Bool := decide (32 ≤ c.toNat) && decide (c.toNat ≤ 126)

/-- What is left of a text is ok, behind so many bytes of its line. -/
def okFrom : Nat → List UInt8 → Bool
  | _, [] => true
  | wide, c :: l => if c = 10 then okFrom 0 l else plainC c && (decide (wide + 1 ≤ 120) && okFrom (wide + 1) l)

def okB (s : ByteArray) : Bool := decide (s.size ≤ 4000) && okFrom 0 (L s)

/-- The lines of what is left, from place k on, the line at hand beginning at b: where each begins and ends. -/
def cuts : Nat → Nat → List UInt8 → List (Nat × Nat)
  | b, k, [] => [(b, k)]
  | b, k, c :: l => if c = 10 then (b, k) :: cuts (k + 1) (k + 1) l else cuts b (k + 1) l

def lines (s : ByteArray) : List (Nat × Nat) := cuts 0 0 (L s)

def plainL (l : List UInt8) : Bool := l.all plainC
def lineOk (l : List UInt8) : Bool := decide (l.length ≤ 120) && plainL l

theorem L_extract (s : ByteArray) (b e : Nat) : L (s.extract b e) = ((L s).take e).drop b := by
  unfold L
  simp [List.drop_take]

theorem plainL_append (a b : List UInt8) : plainL (a ++ b) = (plainL a && plainL b) := by simp [plainL]

/-- All lines are ok just if the text is. -/
theorem cuts_ok (t : List UInt8) : ∀ (l : List UInt8) (b k : Nat), b ≤ k → t.drop k = l → k ≤ t.length → plainL ((t.take k).drop b) = true → k - b ≤ 120 →
    (cuts b k l).all (fun x => lineOk ((t.take x.2).drop x.1)) = okFrom (k - b) l := by
  intro l
  induction l with
  | nil =>
    intro b k hb hl hk hp hw
    simp [cuts, okFrom, lineOk, hp]
    omega
  | cons c l ih =>
    intro b k hb hl hk hp hw
    have hlt : k < t.length := by
      rcases Nat.lt_or_ge k t.length with h | h
      · exact h
      · rw [List.drop_eq_nil_of_le h] at hl; cases hl
    have hc : t[k] = c := by rw [List.drop_eq_getElem_cons hlt] at hl; exact (List.cons.inj hl).1
    have hr : t.drop (k + 1) = l := by rw [List.drop_eq_getElem_cons hlt] at hl; exact (List.cons.inj hl).2
    by_cases h10 : c = 10
    · have := ih (k + 1) (k + 1) (Nat.le_refl _) hr hlt (by simp [plainL]) (by omega)
      simp only [cuts, okFrom, h10, if_true, List.all_cons]
      rw [this]
      have h2 : lineOk ((t.take k).drop b) = true := by simp [lineOk, hp]; omega
      rw [h2]; simp
    · have e : (t.take (k + 1)).drop b = (t.take k).drop b ++ [c] := by
        rw [List.take_succ_eq_append_getElem hlt, List.drop_append_of_le_length (by simp; omega), hc]
      simp only [cuts, okFrom, h10, if_false]
      by_cases hq : plainC c = true ∧ k - b + 1 ≤ 120
      · obtain ⟨q1, q2⟩ := hq
        have := ih b (k + 1) (by omega) hr hlt (by rw [e, plainL_append, hp]; simp [plainL, q1]) (by omega)
        rw [this, q1]
        have e2 : k + 1 - b = k - b + 1 := by omega
        rw [e2]; simp [q2]
      · have hz : (plainC c && (decide (k - b + 1 ≤ 120) && okFrom (k - b + 1) l)) = false := by
          cases h1 : plainC c
          · rfl
          · have : ¬ k - b + 1 ≤ 120 := fun h => hq ⟨h1, h⟩
            simp [this]
        rw [hz]
        -- the line at hand holds this byte, and so it is not ok
        have bad : ∀ (l' : List UInt8) (k' : Nat), k < k' → t.drop k' = l' → k' ≤ t.length → (cuts b k' l').all (fun x => lineOk ((t.take x.2).drop x.1)) = false := by
          have one : ∀ k', k < k' → k' ≤ t.length → lineOk ((t.take k').drop b) = false := by
            intro k' hk' hle
            have hin : (t.take k').drop b = ((t.take k).drop b ++ [c]) ++ (t.take k').drop (k + 1) := by
              rw [← e]
              have : t.take k' = t.take (k + 1) ++ (t.take k').drop (k + 1) := by
                have h := List.take_append_drop (k + 1) (t.take k')
                rw [List.take_take, Nat.min_eq_left (by omega)] at h
                exact h.symm
              conv => lhs; rw [this]
              rw [List.drop_append_of_le_length (by simp; omega)]
            rw [hin]
            cases h1 : plainC c
            · simp [lineOk, plainL, h1]
            · have h3 : ¬ k - b + 1 ≤ 120 := fun h => hq ⟨h1, h⟩
              have h4 : ((t.take k).drop b).length = k - b := by simp; omega
              have : ¬ (((t.take k).drop b ++ [c]) ++ (t.take k').drop (k + 1)).length ≤ 120 := by simp only [List.length_append, h4, List.length_cons, List.length_nil]; omega
              simp only [lineOk, decide_eq_false this, Bool.false_and]
          intro l'
          induction l' with
          | nil => intro k' hk' _ hle; simp [cuts, one k' hk' hle]
          | cons d l' ih2 =>
            intro k' hk' hl' hle
            have hlt' : k' < t.length := by
              rcases Nat.lt_or_ge k' t.length with h | h
              · exact h
              · rw [List.drop_eq_nil_of_le h] at hl'; cases hl'
            have hr' : t.drop (k' + 1) = l' := by rw [List.drop_eq_getElem_cons hlt'] at hl'; exact (List.cons.inj hl').2
            by_cases hd : d = 10
            · simp [cuts, hd, one k' hk' hle]
            · simp only [cuts, hd, if_false]
              exact ih2 (k' + 1) (by omega) hr' hlt'
        exact bad l (k + 1) (by omega) hr hlt

theorem lines_ok (s : ByteArray) : (lines s).all (fun x => lineOk (L (s.extract x.1 x.2))) = okFrom 0 (L s) := by
  have := cuts_ok (L s) (L s) 0 0 (Nat.le_refl _) rfl (Nat.zero_le _) (by simp [plainL]) (by omega)
  simp only [L_extract]
  exact this

end Go.Proofs.YtaclndbilpaboaaGreatDoor
