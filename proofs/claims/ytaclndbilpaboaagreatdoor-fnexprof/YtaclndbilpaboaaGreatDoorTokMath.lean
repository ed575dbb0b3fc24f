/-
  Plain mathematics of words: which text is a word of which kind, and how a line is cut into words. No Go.
-/
import Derived.Lib.ItoaNum
import Derived.Lib.AtoiAll
namespace Go.Proofs.YtaclndbilpaboaaGreatDoor

def isLet (c : UInt8) : Bool := decide (97 ≤ c.toNat) && decide (c.toNat ≤ 122)
def isDig (c : UInt8) : Bool := decide (48 ≤ c.toNat) && decide (c.toNat ≤ 57)
def marks : List UInt8 := [43, 45, 42, 60, 40, 41, 58, 61]
def isMark (c : UInt8) : Bool := marks.contains c

def decStep (a : Nat) (c : UInt8) : Nat := a * 10 + (c.toNat - 48)
/-- What digits come to, behind what the ones ahead came to. -/
def decV (a : Nat) (l : List UInt8) : Nat := l.foldl decStep a
/-- No needless zero. -/
def noLead : List UInt8 → Bool
  | [] => false
  | [_] => true
  | c :: _ :: _ => c != 48
def wordL (l : List UInt8) : Bool := decide (1 ≤ l.length) && (decide (l.length ≤ 8) && l.all isLet)
def decL (l : List UInt8) : Bool := l.all isDig && (noLead l && decide (decV 0 l ≤ 1000000))
def markL : List UInt8 → Bool
  | [c] => isMark c
  | _ => false
/-- The kind of a word; 0, if it is none. -/
def kindL (l : List UInt8) : Nat := if wordL l then 1 else if decL l then 2 else if markL l then 3 else 0
def okL (k : Int) (l : List UInt8) : Bool := if k = 1 then wordL l else if k = 2 then decL l else if k = 3 then markL l else false

theorem isLet_iff (c : UInt8) : isLet c = true ↔ 97 ≤ c.toNat ∧ c.toNat ≤ 122 := by simp [isLet]
theorem isDig_iff (c : UInt8) : isDig c = true ↔ 48 ≤ c.toNat ∧ c.toNat ≤ 57 := by simp [isDig]
theorem let_dig {c : UInt8} (h : isLet c = true) : isDig c = false := by
  rw [isLet_iff] at h
  cases hd : isDig c
  · rfl
  · rw [isDig_iff] at hd; omega
theorem isMark_iff (c : UInt8) : isMark c = true ↔ c = 43 ∨ c = 45 ∨ c = 42 ∨ c = 60 ∨ c = 40 ∨ c = 41 ∨ c = 58 ∨ c = 61 := by simp [isMark, marks]
theorem mark_toNat {c : UInt8} (h : isMark c = true) : isLet c = false ∧ isDig c = false ∧ c ≠ 32 ∧ c.toNat < 128 := by
  rw [isMark_iff] at h
  rcases h with rfl | rfl | rfl | rfl | rfl | rfl | rfl | rfl <;> decide

theorem decV_nil (a : Nat) : decV a [] = a := rfl
theorem decV_cons (a : Nat) (c : UInt8) (l : List UInt8) : decV a (c :: l) = decV (a * 10 + (c.toNat - 48)) l := by
  unfold decV
  rw [List.foldl_cons]
  unfold decStep
  rfl
theorem decV_append (l : List UInt8) : ∀ (a : Nat) (c : UInt8), decV a (l ++ [c]) = decV a l * 10 + (c.toNat - 48) := by
  induction l with
  | nil => intro a c; rw [List.nil_append, decV_cons, decV_nil, decV_nil]
  | cons d l ih => intro a c; rw [List.cons_append, decV_cons, decV_cons, ih]
theorem decV_ge (l : List UInt8) : ∀ a : Nat, a * 10 ^ l.length ≤ decV a l := by
  induction l with
  | nil => intro a; rw [decV_nil, List.length_nil, Nat.pow_zero, Nat.mul_one]; exact Nat.le_refl _
  | cons d l ih =>
    intro a
    rw [decV_cons]
    refine Nat.le_trans ?_ (ih (a * 10 + (d.toNat - 48)))
    rw [List.length_cons, Nat.pow_succ, Nat.mul_comm (10 ^ l.length) 10, ← Nat.mul_assoc]
    exact Nat.mul_le_mul_right _ (Nat.le_add_right _ _)
theorem decV_le (l : List UInt8) (a : Nat) : a ≤ decV a l := by
  refine Nat.le_trans ?_ (decV_ge l a)
  exact Nat.le_mul_of_pos_right a (Nat.pow_pos (by omega))
theorem decV_head {c : UInt8} {l : List UInt8} (hd : isDig c = true) (hc : c ≠ 48) : 10 ^ l.length ≤ decV 0 (c :: l) := by
  have h1 : 1 ≤ c.toNat - 48 := by
    rw [isDig_iff] at hd
    have : c.toNat ≠ 48 := fun h => hc (UInt8.toNat_inj.1 (by rw [h]; rfl))
    omega
  have h2 := decV_ge l (0 * 10 + (c.toNat - 48))
  rw [decV_cons]
  refine Nat.le_trans ?_ h2
  exact Nat.le_mul_of_pos_left _ (by omega)
theorem decL_length {l : List UInt8} (h : decL l = true) : l.length ≤ 7 := by
  simp only [decL, Bool.and_eq_true, decide_eq_true_eq] at h
  obtain ⟨h1, h2, h3⟩ := h
  match l, h1, h2, h3 with
  | [], _, _, _ => simp
  | [_], _, _, _ => simp
  | c :: d :: l, h1, h2, h3 =>
    have h4 : c ≠ 48 := by simpa [noLead] using h2
    have h5 := decV_head (l := d :: l) (List.all_eq_true.1 h1 c (by simp)) h4
    rcases Nat.lt_or_ge (d :: l).length 7 with h | h
    · simp only [List.length_cons] at h ⊢; omega
    · have := Nat.pow_le_pow_right (n := 10) (by omega) h
      omega

/-- Digits of a number, as they are written. -/
theorem dec_digits (n : Nat) : (Lib.decDigits n).all isDig = true ∧ noLead (Lib.decDigits n) = true ∧ decV 0 (Lib.decDigits n) = n ∧ (0 < n → (Lib.decDigits n).head? ≠ some 48) := by
  induction n using Nat.strongRecOn with
  | ind n ih =>
    have hd : ∀ k, k < 10 → isDig (UInt8.ofNat (48 + k)) = true ∧ (UInt8.ofNat (48 + k)).toNat = 48 + k := by
      intro k hk
      have : (UInt8.ofNat (48 + k)).toNat = 48 + k := by rw [UInt8.toNat_ofNat']; omega
      exact ⟨by rw [isDig_iff, this]; omega, this⟩
    by_cases h : n < 10
    · rw [Lib.decDigits_one h]
      obtain ⟨h1, h2⟩ := hd n h
      refine ⟨by rw [List.all_cons, h1]; rfl, rfl, by rw [decV_cons, decV_nil, h2]; omega, fun h0 => ?_⟩
      intro he
      simp only [List.head?_cons, Option.some.injEq] at he
      rw [he] at h2
      simp at h2
      omega
    · rw [Lib.decDigits, dif_neg h]
      obtain ⟨i1, i2, i3, i4⟩ := ih (n / 10) (by omega)
      obtain ⟨h1, h2⟩ := hd (n % 10) (by omega)
      have i5 := i4 (by omega)
      refine ⟨by rw [List.all_append, i1, List.all_cons, h1]; rfl, ?_, by rw [decV_append, i3, h2]; omega, fun _ => ?_⟩
      · cases hl : Lib.decDigits (n / 10) with
        | nil => rw [hl] at i2; cases i2
        | cons c l =>
          rw [hl] at i5
          have : c ≠ 48 := by simpa using i5
          cases l <;> simpa [noLead] using this
      · cases hl : Lib.decDigits (n / 10) with
        | nil => rw [hl] at i2; cases i2
        | cons c l => rw [hl] at i5; simpa using i5
theorem digits_dec (l : List UInt8) : l.all isDig = true → noLead l = true → Lib.decDigits (decV 0 l) = l := by
  induction hn : l.length using Nat.strongRecOn generalizing l with
  | ind n ih =>
    intro h1 h2
    rcases List.eq_nil_or_concat l with rfl | ⟨l', c, rfl⟩
    · cases h2
    · rw [List.concat_eq_append] at *
      have hc : isDig c = true := List.all_eq_true.1 h1 c (by simp)
      have hcb := (isDig_iff c).1 hc
      have hof : UInt8.ofNat (48 + (c.toNat - 48)) = c := by rw [show 48 + (c.toNat - 48) = c.toNat by omega]; simp
      by_cases h0 : l' = []
      · subst h0
        rw [List.nil_append]
        rw [decV_cons, decV_nil, Nat.zero_mul, Nat.zero_add, Lib.decDigits_one (by omega), hof]
      · have hl : l'.all isDig = true := by rw [List.all_append] at h1; exact (Bool.and_eq_true _ _ ▸ h1).1
        match l', h0 with
        | x :: m, _ =>
          have hx : x ≠ 48 := by cases m <;> simpa [noLead] using h2
          have hxd : isDig x = true := List.all_eq_true.1 hl x (by simp)
          have hge := decV_head (l := m) hxd hx
          have h10 : 1 ≤ decV 0 (x :: m) := Nat.le_trans (Nat.pow_pos (by omega)) hge
          have hl2 : noLead (x :: m) = true := by cases m <;> simp [noLead, hx]
          have := ih (x :: m).length (by rw [← hn]; simp) (x :: m) rfl hl hl2
          rw [decV_append, Lib.decDigits, dif_neg (by omega), show (decV 0 (x :: m) * 10 + (c.toNat - 48)) / 10 = decV 0 (x :: m) by omega, show (decV 0 (x :: m) * 10 + (c.toNat - 48)) % 10 = c.toNat - 48 by omega, this, hof]
theorem decL_iff (l : List UInt8) : decL l = true ↔ ∃ n, n ≤ 1000000 ∧ Lib.decDigits n = l := by
  constructor
  · intro h
    simp only [decL, Bool.and_eq_true, decide_eq_true_eq] at h
    exact ⟨decV 0 l, h.2.2, digits_dec l h.1 h.2.1⟩
  · rintro ⟨n, hn, rfl⟩
    obtain ⟨h1, h2, h3, _⟩ := dec_digits n
    simp only [decL, Bool.and_eq_true, decide_eq_true_eq]
    exact ⟨h1, h2, by rw [h3]; exact hn⟩

theorem parse_dec (l : List UInt8) : ∀ a : Nat, l.all isDig = true → decV a l ≤ 1000000 → Lib.parseUint10 a l = .ok (decV a l) := by
  induction l with
  | nil => intro a _ _; rfl
  | cons c l ih =>
    intro a h1 h2
    rw [List.all_cons, Bool.and_eq_true] at h1
    have hc := (isDig_iff c).1 h1.1
    have h3 := decV_le l (a * 10 + (c.toNat - 48))
    have h4 : decV (a * 10 + (c.toNat - 48)) l ≤ 1000000 := by rw [decV_cons] at h2; exact h2
    have := ih (a * 10 + (c.toNat - 48)) h1.2 h4
    rw [Lib.parseUint10, if_pos hc, decV_cons, ← this]
    first
    | rw [if_neg (by omega), if_neg (by omega)]
    | rw [if_neg (by omega)]
    | (simp only []; rw [if_neg (by omega), if_neg (by omega)])
theorem atoi_dec (n : Nat) (hn : n ≤ 1000000) : Lib.atoiAll (Lib.decDigits n) = .ok (n : Int) := by
  obtain ⟨h1, h2, h3, _⟩ := dec_digits n
  cases hl : Lib.decDigits n with
  | nil => rw [hl] at h2; cases h2
  | cons c l =>
    rw [hl] at h1 h3
    have hc := (isDig_iff c).1 (List.all_eq_true.1 h1 c (by simp))
    have hp := parse_dec (c :: l) 0 h1 (by rw [h3]; exact hn)
    rw [h3] at hp
    unfold Lib.atoiAll
    simp only []
    rw [if_neg (by omega)]
    unfold Lib.parseMag
    rw [if_neg (by simp), hp]
    simp only []
    rw [if_neg (by omega), if_neg (by omega), if_neg (by omega)]
/-- What decimalOk asks is what decL says. -/
theorem dec_ok (l : List UInt8) (v : Int) (h : Lib.atoiAll l = .ok v) : decL l = (decide (0 ≤ v) && (decide (v ≤ 1000000) && decide (Lib.itoa v = l))) := by
  rw [Bool.eq_iff_iff, decL_iff]
  simp only [Bool.and_eq_true, decide_eq_true_eq]
  constructor
  · rintro ⟨n, hn, rfl⟩
    rw [atoi_dec n hn] at h
    obtain rfl : v = (n : Int) := by injection h with h; exact h.symm
    exact ⟨by omega, by omega, by unfold Lib.itoa; rw [if_neg (by omega)]; simp⟩
  · rintro ⟨h0, h1, h2⟩
    refine ⟨v.toNat, by omega, ?_⟩
    rw [← h2]
    unfold Lib.itoa
    rw [if_neg (by omega)]
theorem dec_no (l : List UInt8) (h : ∀ v, Lib.atoiAll l ≠ .ok v) : decL l = false := by
  cases hd : decL l
  · rfl
  · obtain ⟨n, hn, rfl⟩ := (decL_iff l).1 hd
    exact absurd (atoi_dec n hn) (h _)

end Go.Proofs.YtaclndbilpaboaaGreatDoor
