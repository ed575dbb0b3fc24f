/-
  TextMath, TokMath, ExMath, SameMath, StMath, BrMath, ExLaws: these texts one behind the other, as a claim holds at most 60 files.
-/
import Derived.Lib.Strings
import Derived.Lib.ItoaNum
import Derived.Lib.AtoiAll
namespace Go.Proofs.YtabignplhkbcpaaGreatDoor

def L (s : ByteArray) : List UInt8 := s.data.toList
theorem L_length (s : ByteArray) : (L s).length = s.size := (Go.Lib.size_eq s).symm
theorem L_drop (s : ByteArray) (k : Nat) (h : k < s.size) : (L s).drop k = s[k] :: (L s).drop (k + 1) := by
  unfold L
  rw [List.drop_eq_getElem_cons (by simpa using h)]
  rfl

/-- A byte that can be seen, or a space. -/
def plainC (c : UInt8) : Bool := decide (32 ≤ c.toNat) && decide (c.toNat ≤ 126)

/-- What is left of a text is ok, behind so many bytes of its line. -/
def okFrom : Nat → List UInt8 → Bool
  | _, [] => true
  | wide, c :: l => if c = 10 then okFrom 0 l else plainC c && (decide (wide + 1 ≤ 120) && okFrom (wide + 1) l)

def okB (s : ByteArray) : Bool := decide (s.size ≤ 4000) && okFrom 0 (L s)

/-- The lines of what is left, from place k on, the line at hand beginning at b: where each begins and ends. -/
def cuts : Nat → Nat → List UInt8 → List (Nat × Nat)
  | b, k, [] => [(b, k)]
  | b, k, c :: l => if c = 10 then (b, k) :: cuts (k + 1) (k + 1) l else cuts b (k + 1) l

def lines (s : ByteArray) : List (Nat × Nat) := cuts 0 0 (L s)

def plainL (l : List UInt8) : Bool := l.all plainC
def lineOk (l : List UInt8) : Bool := decide (l.length ≤ 120) && plainL l

theorem L_extract (s : ByteArray) (b e : Nat) : L (s.extract b e) = ((L s).take e).drop b := by
  unfold L
  simp [List.drop_take]

theorem plainL_append (a b : List UInt8) : plainL (a ++ b) = (plainL a && plainL b) := by simp [plainL]

/-- All lines are ok just if the text is. -/
theorem cuts_ok (t : List UInt8) : ∀ (l : List UInt8) (b k : Nat), b ≤ k → t.drop k = l → k ≤ t.length → plainL ((t.take k).drop b) = true → k - b ≤ 120 →
    (cuts b k l).all (fun x => lineOk ((t.take x.2).drop x.1)) = okFrom (k - b) l := by
  intro l
  induction l with
  | nil =>
    intro b k hb hl hk hp hw
    simp [cuts, okFrom, lineOk, hp]
    omega
  | cons c l ih =>
    intro b k hb hl hk hp hw
    have hlt : k < t.length := by
      rcases Nat.lt_or_ge k t.length with h | h
      · exact h
      · rw [List.drop_eq_nil_of_le h] at hl; cases hl
    have hc : t[k] = c := by rw [List.drop_eq_getElem_cons hlt] at hl; exact (List.cons.inj hl).1
    have hr : t.drop (k + 1) = l := by rw [List.drop_eq_getElem_cons hlt] at hl; exact (List.cons.inj hl).2
    by_cases h10 : c = 10
    · have := ih (k + 1) (k + 1) (Nat.le_refl _) hr hlt (by simp [plainL]) (by omega)
      simp only [cuts, okFrom, h10, if_true, List.all_cons]
      rw [this]
      have h2 : lineOk ((t.take k).drop b) = true := by simp [lineOk, hp]; omega
      rw [h2]; simp
    · have e : (t.take (k + 1)).drop b = (t.take k).drop b ++ [c] := by
        rw [List.take_succ_eq_append_getElem hlt, List.drop_append_of_le_length (by simp; omega), hc]
      simp only [cuts, okFrom, h10, if_false]
      by_cases hq : plainC c = true ∧ k - b + 1 ≤ 120
      · obtain ⟨q1, q2⟩ := hq
        have := ih b (k + 1) (by omega) hr hlt (by rw [e, plainL_append, hp]; simp [plainL, q1]) (by omega)
        rw [this, q1]
        have e2 : k + 1 - b = k - b + 1 := by omega
        rw [e2]; simp [q2]
      · have hz : (plainC c && (decide (k - b + 1 ≤ 120) && okFrom (k - b + 1) l)) = false := by
          cases h1 : plainC c
          · rfl
          · have : ¬ k - b + 1 ≤ 120 := fun h => hq ⟨h1, h⟩
            simp [this]
        rw [hz]
        -- the line at hand holds this byte, and so it is not ok
        have bad : ∀ (l' : List UInt8) (k' : Nat), k < k' → t.drop k' = l' → k' ≤ t.length → (cuts b k' l').all (fun x => lineOk ((t.take x.2).drop x.1)) = false := by
          have one : ∀ k', k < k' → k' ≤ t.length → lineOk ((t.take k').drop b) = false := by
            intro k' hk' hle
            have hin : (t.take k').drop b = ((t.take k).drop b ++ [c]) ++ (t.take k').drop (k + 1) := by
              rw [← e]
              have : t.take k' = t.take (k + 1) ++ (t.take k').drop (k + 1) := by
                have h := List.take_append_drop (k + 1) (t.take k')
                rw [List.take_take, Nat.min_eq_left (by omega)] at h
                exact h.symm
              conv => lhs; rw [this]
              rw [List.drop_append_of_le_length (by simp; omega)]
            rw [hin]
            cases h1 : plainC c
            · simp [lineOk, plainL, h1]
            · have h3 : ¬ k - b + 1 ≤ 120 := fun h => hq ⟨h1, h⟩
              have h4 : ((t.take k).drop b).length = k - b := by simp; omega
              have : ¬ (((t.take k).drop b ++ [c]) ++ (t.take k').drop (k + 1)).length ≤ 120 := by simp only [List.length_append, h4, List.length_cons, List.length_nil]; omega
              simp only [lineOk, decide_eq_false this, Bool.false_and]
          intro l'
          induction l' with
          | nil => intro k' hk' _ hle; simp [cuts, one k' hk' hle]
          | cons d l' ih2 =>
            intro k' hk' hl' hle
            have hlt' : k' < t.length := by
              rcases Nat.lt_or_ge k' t.length with h | h
              · exact h
              · rw [List.drop_eq_nil_of_le h] at hl'; cases hl'
            have hr' : t.drop (k' + 1) = l' := by rw [List.drop_eq_getElem_cons hlt'] at hl'; exact (List.cons.inj hl').2
            by_cases hd : d = 10
            · simp [cuts, hd, one k' hk' hle]
            · simp only [cuts, hd, if_false]
              exact ih2 (k' + 1) (by omega) hr' hlt'
        exact bad l (k + 1) (by omega) hr hlt

theorem lines_ok (s : ByteArray) : (lines s).all (fun x => lineOk (L (s.extract x.1 x.2))) = okFrom 0 (L s) := by
  have := cuts_ok (L s) (L s) 0 0 (Nat.le_refl _) rfl (Nat.zero_le _) (by simp [plainL]) (by omega)
  simp only [L_extract]
  exact this

end Go.Proofs.YtabignplhkbcpaaGreatDoor

namespace Go.Proofs.YtabignplhkbcpaaGreatDoor

def isLet (c : UInt8) : Bool := decide (97 ≤ c.toNat) && decide (c.toNat ≤ 122)
def isDig (c : UInt8) : Bool := decide (48 ≤ c.toNat) && decide (c.toNat ≤ 57)
def marks : List UInt8 := [43, 45, 42, 60, 40, 41, 58, 61]
def isMark (c : UInt8) : Bool := marks.contains c

def decStep (a : Nat) (c : UInt8) : Nat := a * 10 + (c.toNat - 48)
/-- What digits come to, behind what the ones ahead came to. -/
def decV (a : Nat) (l : List UInt8) : Nat := l.foldl decStep a
/-- No needless zero. -/
def noLead : List UInt8 → Bool
  | [] => false
  | [_] => true
  | c :: _ :: _ => c != 48
def wordL (l : List UInt8) : Bool := decide (1 ≤ l.length) && (decide (l.length ≤ 8) && l.all isLet)
def decL (l : List UInt8) : Bool := l.all isDig && (noLead l && decide (decV 0 l ≤ 1000000))
def markL : List UInt8 → Bool
  | [c] => isMark c
  | _ => false
/-- The kind of a word; 0, if it is none. -/
def kindL (l : List UInt8) : Nat := if wordL l then 1 else if decL l then 2 else if markL l then 3 else 0
def okL (k : Int) (l : List UInt8) : Bool := if k = 1 then wordL l else if k = 2 then decL l else if k = 3 then markL l else false

theorem isLet_iff (c : UInt8) : isLet c = true ↔ 97 ≤ c.toNat ∧ c.toNat ≤ 122 := by simp [isLet]
theorem isDig_iff (c : UInt8) : isDig c = true ↔ 48 ≤ c.toNat ∧ c.toNat ≤ 57 := by simp [isDig]
theorem let_dig {c : UInt8} (h : isLet c = true) : isDig c = false := by
  rw [isLet_iff] at h
  cases hd : isDig c
  · rfl
  · rw [isDig_iff] at hd; omega
theorem isMark_iff (c : UInt8) : isMark c = true ↔ c = 43 ∨ c = 45 ∨ c = 42 ∨ c = 60 ∨ c = 40 ∨ c = 41 ∨ c = 58 ∨ c = 61 := by simp [isMark, marks]
theorem mark_toNat {c : UInt8} (h : isMark c = true) : isLet c = false ∧ isDig c = false ∧ c ≠ 32 ∧ c.toNat < 128 := by
  rw [isMark_iff] at h
  rcases h with rfl | rfl | rfl | rfl | rfl | rfl | rfl | rfl <;> decide

theorem decV_nil (a : Nat) : decV a [] = a := rfl
theorem decV_cons (a : Nat) (c : UInt8) (l : List UInt8) : decV a (c :: l) = decV (a * 10 + (c.toNat - 48)) l := by
  unfold decV
  rw [List.foldl_cons]
  unfold decStep
  rfl
theorem decV_append (l : List UInt8) : ∀ (a : Nat) (c : UInt8), decV a (l ++ [c]) = decV a l * 10 + (c.toNat - 48) := by
  induction l with
  | nil => intro a c; rw [List.nil_append, decV_cons, decV_nil, decV_nil]
  | cons d l ih => intro a c; rw [List.cons_append, decV_cons, decV_cons, ih]
theorem decV_ge (l : List UInt8) : ∀ a : Nat, a * 10 ^ l.length ≤ decV a l := by
  induction l with
  | nil => intro a; rw [decV_nil, List.length_nil, Nat.pow_zero, Nat.mul_one]; exact Nat.le_refl _
  | cons d l ih =>
    intro a
    rw [decV_cons]
    refine Nat.le_trans ?_ (ih (a * 10 + (d.toNat - 48)))
    rw [List.length_cons, Nat.pow_succ, Nat.mul_comm (10 ^ l.length) 10, ← Nat.mul_assoc]
    exact Nat.mul_le_mul_right _ (Nat.le_add_right _ _)
theorem decV_le (l : List UInt8) (a : Nat) : a ≤ decV a l := by
  refine Nat.le_trans ?_ (decV_ge l a)
  exact Nat.le_mul_of_pos_right a (Nat.pow_pos (by omega))
theorem decV_head {c : UInt8} {l : List UInt8} (hd : isDig c = true) (hc : c ≠ 48) : 10 ^ l.length ≤ decV 0 (c :: l) := by
  have h1 : 1 ≤ c.toNat - 48 := by
    rw [isDig_iff] at hd
    have : c.toNat ≠ 48 := fun h => hc (UInt8.toNat_inj.1 (by rw [h]; rfl))
    omega
  have h2 := decV_ge l (0 * 10 + (c.toNat - 48))
  rw [decV_cons]
  refine Nat.le_trans ?_ h2
  exact Nat.le_mul_of_pos_left _ (by omega)
theorem decL_length {l : List UInt8} (h : decL l = true) : l.length ≤ 7 := by
  simp only [decL, Bool.and_eq_true, decide_eq_true_eq] at h
  obtain ⟨h1, h2, h3⟩ := h
  match l, h1, h2, h3 with
  | [], _, _, _ => simp
  | [_], _, _, _ => simp
  | c :: d :: l, h1, h2, h3 =>
    have h4 : c ≠ 48 := by simpa [noLead] using h2
    have h5 := decV_head (l := d :: l) (List.all_eq_true.1 h1 c (by simp)) h4
    rcases Nat.lt_or_ge (d :: l).length 7 with h | h
    · simp only [List.length_cons] at h ⊢; omega
    · have := Nat.pow_le_pow_right (n := 10) (by omega) h
      omega

/-- Digits of a number, as they are written. -/
theorem dec_digits (n : Nat) : (Lib.decDigits n).all isDig = true ∧ noLead (Lib.decDigits n) = true ∧ decV 0 (Lib.decDigits n) = n ∧ (0 < n → (Lib.decDigits n).head? ≠ some 48) := by
  induction n using Nat.strongRecOn with
  | ind n ih =>
    have hd : ∀ k, k < 10 → isDig (UInt8.ofNat (48 + k)) = true ∧ (UInt8.ofNat (48 + k)).toNat = 48 + k := by
      intro k hk
      have : (UInt8.ofNat (48 + k)).toNat = 48 + k := by rw [UInt8.toNat_ofNat']; omega
      exact ⟨by rw [isDig_iff, this]; omega, this⟩
    by_cases h : n < 10
    · rw [Lib.decDigits_one h]
      obtain ⟨h1, h2⟩ := hd n h
      refine ⟨by rw [List.all_cons, h1]; rfl, rfl, by rw [decV_cons, decV_nil, h2]; omega, fun h0 => ?_⟩
      intro he
      simp only [List.head?_cons, Option.some.injEq] at he
      rw [he] at h2
      simp at h2
      omega
    · rw [Lib.decDigits, dif_neg h]
      obtain ⟨i1, i2, i3, i4⟩ := ih (n / 10) (by omega)
      obtain ⟨h1, h2⟩ := hd (n % 10) (by omega)
      have i5 := i4 (by omega)
      refine ⟨by rw [List.all_append, i1, List.all_cons, h1]; rfl, ?_, by rw [decV_append, i3, h2]; omega, fun _ => ?_⟩
      · cases hl : Lib.decDigits (n / 10) with
        | nil => rw [hl] at i2; cases i2
        | cons c l =>
          rw [hl] at i5
          have : c ≠ 48 := by simpa using i5
          cases l <;> simpa [noLead] using this
      · cases hl : Lib.decDigits (n / 10) with
        | nil => rw [hl] at i2; cases i2
        | cons c l => rw [hl] at i5; simpa using i5
theorem digits_dec (l : List UInt8) : l.all isDig = true → noLead l = true → Lib.decDigits (decV 0 l) = l := by
  induction hn : l.length using Nat.strongRecOn generalizing l with
  | ind n ih =>
    intro h1 h2
    rcases List.eq_nil_or_concat l with rfl | ⟨l', c, rfl⟩
    · cases h2
    · rw [List.concat_eq_append] at *
      have hc : isDig c = true := List.all_eq_true.1 h1 c (by simp)
      have hcb := (isDig_iff c).1 hc
      have hof : UInt8.ofNat (48 + (c.toNat - 48)) = c := by rw [show 48 + (c.toNat - 48) = c.toNat by omega]; simp
      by_cases h0 : l' = []
      · subst h0
        rw [List.nil_append]
        rw [decV_cons, decV_nil, Nat.zero_mul, Nat.zero_add, Lib.decDigits_one (by omega), hof]
      · have hl : l'.all isDig = true := by rw [List.all_append] at h1; exact (Bool.and_eq_true _ _ ▸ h1).1
        match l', h0 with
        | x :: m, _ =>
          have hx : x ≠ 48 := by cases m <;> simpa [noLead] using h2
          have hxd : isDig x = true := List.all_eq_true.1 hl x (by simp)
          have hge := decV_head (l := m) hxd hx
          have h10 : 1 ≤ decV 0 (x :: m) := Nat.le_trans (Nat.pow_pos (by omega)) hge
          have hl2 : noLead (x :: m) = true := by cases m <;> simp [noLead, hx]
          have := ih (x :: m).length (by rw [← hn]; simp) (x :: m) rfl hl hl2
          rw [decV_append, Lib.decDigits, dif_neg (by omega), show (decV 0 (x :: m) * 10 + (c.toNat - 48)) / 10 = decV 0 (x :: m) by omega, show (decV 0 (x :: m) * 10 + (c.toNat - 48)) % 10 = c.toNat - 48 by omega, this, hof]
theorem decL_iff (l : List UInt8) : decL l = true ↔ ∃ n, n ≤ 1000000 ∧ Lib.decDigits n = l := by
  constructor
  · intro h
    simp only [decL, Bool.and_eq_true, decide_eq_true_eq] at h
    exact ⟨decV 0 l, h.2.2, digits_dec l h.1 h.2.1⟩
  · rintro ⟨n, hn, rfl⟩
    obtain ⟨h1, h2, h3, _⟩ := dec_digits n
    simp only [decL, Bool.and_eq_true, decide_eq_true_eq]
    exact ⟨h1, h2, by rw [h3]; exact hn⟩

theorem parse_dec (l : List UInt8) : ∀ a : Nat, l.all isDig = true → decV a l ≤ 1000000 → Lib.parseUint10 a l = .ok (decV a l) := by
  induction l with
  | nil => intro a _ _; rfl
  | cons c l ih =>
    intro a h1 h2
    rw [List.all_cons, Bool.and_eq_true] at h1
    have hc := (isDig_iff c).1 h1.1
    have h3 := decV_le l (a * 10 + (c.toNat - 48))
    have h4 : decV (a * 10 + (c.toNat - 48)) l ≤ 1000000 := by rw [decV_cons] at h2; exact h2
    have := ih (a * 10 + (c.toNat - 48)) h1.2 h4
    rw [Lib.parseUint10, if_pos hc, decV_cons, ← this]
    first
    | rw [if_neg (by omega), if_neg (by omega)]
    | rw [if_neg (by omega)]
    | (simp only []; rw [if_neg (by omega), if_neg (by omega)])
theorem atoi_dec (n : Nat) (hn : n ≤ 1000000) : Lib.atoiAll (Lib.decDigits n) = .ok (n : Int) := by
  obtain ⟨h1, h2, h3, _⟩ := dec_digits n
  cases hl : Lib.decDigits n with
  | nil => rw [hl] at h2; cases h2
  | cons c l =>
    rw [hl] at h1 h3
    have hc := (isDig_iff c).1 (List.all_eq_true.1 h1 c (by simp))
    have hp := parse_dec (c :: l) 0 h1 (by rw [h3]; exact hn)
    rw [h3] at hp
    unfold Lib.atoiAll
    simp only []
    rw [if_neg (by omega)]
    unfold Lib.parseMag
    rw [if_neg (by simp), hp]
    simp only []
    rw [if_neg (by omega), if_neg (by omega), if_neg (by omega)]
/-- What decimalOk asks is what decL says. -/
theorem dec_ok (l : List UInt8) (v : Int) (h : Lib.atoiAll l = .ok v) : decL l = (decide (0 ≤ v) && (decide (v ≤ 1000000) && decide (Lib.itoa v = l))) := by
  rw [Bool.eq_iff_iff, decL_iff]
  simp only [Bool.and_eq_true, decide_eq_true_eq]
  constructor
  · rintro ⟨n, hn, rfl⟩
    rw [atoi_dec n hn] at h
    obtain rfl : v = (n : Int) := by injection h with h; exact h.symm
    exact ⟨by omega, by omega, by unfold Lib.itoa; rw [if_neg (by omega)]; simp⟩
  · rintro ⟨h0, h1, h2⟩
    refine ⟨v.toNat, by omega, ?_⟩
    rw [← h2]
    unfold Lib.itoa
    rw [if_neg (by omega)]
theorem dec_no (l : List UInt8) (h : ∀ v, Lib.atoiAll l ≠ .ok v) : decL l = false := by
  cases hd : decL l
  · rfl
  · obtain ⟨n, hn, rfl⟩ := (decL_iff l).1 hd
    exact absurd (atoi_dec n hn) (h _)

end Go.Proofs.YtabignplhkbcpaaGreatDoor

namespace Go.Proofs.YtabignplhkbcpaaGreatDoor

def sInt : ByteArray := ⟨#[105, 110, 116]⟩
def sBool : ByteArray := ⟨#[98, 111, 111, 108]⟩
def sAs : ByteArray := ⟨#[97, 115]⟩
def sLet : ByteArray := ⟨#[108, 101, 116]⟩
def sSay : ByteArray := ⟨#[115, 97, 121]⟩
def sWhen : ByteArray := ⟨#[119, 104, 101, 110]⟩
def sPrint : ByteArray := ⟨#[112, 114, 105, 110, 116]⟩
def sIf : ByteArray := ⟨#[105, 102]⟩
def sLp : ByteArray := ⟨#[40]⟩
def sRp : ByteArray := ⟨#[41]⟩
def sPlus : ByteArray := ⟨#[43]⟩
def sMinus : ByteArray := ⟨#[45]⟩
def sTimes : ByteArray := ⟨#[42]⟩
def sLess : ByteArray := ⟨#[60]⟩

/-- What is reckoned, as Go holds it. -/
inductive Ex where
  | mk (kind n : Int) (s : ByteArray) (kids : List Ex)
def Ex.kind : Ex → Int | .mk k _ _ _ => k
def Ex.n : Ex → Int | .mk _ n _ _ => n
def Ex.s : Ex → ByteArray | .mk _ _ s _ => s
def Ex.kids : Ex → List Ex | .mk _ _ _ ks => ks
theorem Ex.eta (e : Ex) : e = .mk e.kind e.n e.s e.kids := by cases e; rfl
def Ex.zero : Ex := .mk 0 0 ByteArray.empty []

theorem Ex.ind {P : Ex → Prop} (h : ∀ k n s ks, (∀ e ∈ ks, P e) → P (.mk k n s ks)) : ∀ e, P e := by
  intro e
  refine Ex.rec (motive_1 := P) (motive_2 := fun ks => ∀ e ∈ ks, P e) (fun k n s ks ih => h k n s ks ih) (fun e he => by cases he) (fun e es i1 i2 x hx => ?_) e
  rcases List.mem_cons.1 hx with rfl | hx
  · exact i1
  · exact i2 x hx

mutual
/-- How many bytes its texts have, and one for each kid. -/
def Ex.wt : Ex → Nat
  | .mk _ _ s ks => s.size + Ex.wts ks
def Ex.wts : List Ex → Nat
  | [] => 0
  | e :: es => 1 + Ex.wt e + Ex.wts es
end
mutual
/-- How many parts there are. -/
def Ex.nodes : Ex → Nat
  | .mk _ _ _ ks => 1 + Ex.nodess ks
def Ex.nodess : List Ex → Nat
  | [] => 0
  | e :: es => Ex.nodes e + Ex.nodess es
end
theorem Ex.wts_append (xs ys : List Ex) : Ex.wts (xs ++ ys) = Ex.wts xs + Ex.wts ys := by
  induction xs with
  | nil => simp [Ex.wts]
  | cons x xs ih => simp only [List.cons_append, Ex.wts, ih]; omega
theorem Ex.wts_length (xs : List Ex) : xs.length ≤ Ex.wts xs := by
  induction xs with
  | nil => simp
  | cons x xs ih => simp only [List.length_cons, Ex.wts]; omega
theorem Ex.wt_mem {x : Ex} {xs : List Ex} (h : x ∈ xs) : x.wt + 1 ≤ Ex.wts xs := by
  induction xs with
  | nil => cases h
  | cons y ys ih =>
    rcases List.mem_cons.1 h with rfl | h
    · simp only [Ex.wts]; omega
    · have := ih h; simp only [Ex.wts]; omega
theorem Ex.wt_kid {k n : Int} {s : ByteArray} {ks : List Ex} {x : Ex} (h : x ∈ ks) : x.wt + 1 ≤ (Ex.mk k n s ks).wt := by
  have := Ex.wt_mem h
  simp only [Ex.wt]; omega
theorem Ex.nodess_append (xs ys : List Ex) : Ex.nodess (xs ++ ys) = Ex.nodess xs + Ex.nodess ys := by
  induction xs with
  | nil => simp [Ex.nodess]
  | cons x xs ih => simp only [List.cons_append, Ex.nodess, ih]; omega
theorem Ex.nodes_le (e : Ex) : e.nodes ≤ e.wt + 1 := by
  induction e using Ex.ind with
  | h k n s ks ih =>
    have : Ex.nodess ks ≤ Ex.wts ks := by
      clear n s
      induction ks with
      | nil => simp [Ex.nodess]
      | cons y ys ih2 =>
        have h1 := ih y (by simp)
        have h2 := ih2 (fun e he => ih e (by simp [he]))
        simp only [Ex.nodess, Ex.wts]; omega
    simp only [Ex.nodes, Ex.wt]; omega

/-- A part: what is right of what is reckoned. -/
inductive Pt where
  | num (n : Int)
  | name (s : ByteArray)
  | two (s : ByteArray) (a b : Pt)
  | as (s : ByteArray) (a : Pt)

def Pt.ex : Pt → Ex
  | .num n => .mk 1 n ByteArray.empty []
  | .name s => .mk 2 0 s []
  | .two s a b => .mk 3 0 s [a.ex, b.ex]
  | .as s a => .mk 4 0 s [a.ex]
theorem Pt.ex_inj : ∀ (p q : Pt), p.ex = q.ex → p = q := by
  intro p
  induction p with
  | num n => intro q h; cases q <;> simp [Pt.ex] at h; rw [h]
  | name s => intro q h; cases q <;> simp [Pt.ex] at h; rw [h]
  | two s a b ia ib => intro q h; cases q <;> simp [Pt.ex] at h; rw [h.1, ia _ h.2.1, ib _ h.2.2]
  | as s a ia => intro q h; cases q <;> simp [Pt.ex] at h; rw [h.1, ia _ h.2]

def typeB (s : ByteArray) : Bool := decide (s = sInt) || decide (s = sBool)
def heldB (s : ByteArray) : Bool := decide (s = sLet) || (decide (s = sSay) || (decide (s = sWhen) || (decide (s = sAs) || (decide (s = sPrint) || (decide (s = sIf) || typeB s)))))
def nameB (s : ByteArray) : Bool := wordL (L s) && !heldB s
/-- How tight a mark holds; 0, if it is none. -/
def hold (s : ByteArray) : Nat := if s = sLess then 1 else if s = sPlus then 2 else if s = sMinus then 2 else if s = sTimes then 3 else 0
theorem hold_le (s : ByteArray) : hold s ≤ 3 := by unfold hold; split <;> (try split) <;> (try split) <;> (try split) <;> omega

def Pt.fine : Pt → Bool
  | .num n => decide (0 ≤ n) && decide (n ≤ 1000000)
  | .name s => nameB s
  | .two s a b => decide (hold s ≠ 0) && (a.fine && b.fine)
  | .as s a => typeB s && a.fine
def Pt.depth : Pt → Nat
  | .num _ => 1
  | .name _ => 1
  | .two _ a b => max a.depth b.depth + 1
  | .as _ a => a.depth + 1
def Pt.nodes : Pt → Nat
  | .num _ => 1
  | .name _ => 1
  | .two _ a b => a.nodes + b.nodes + 1
  | .as _ a => a.nodes + 1
theorem Pt.nodes_ex (p : Pt) : p.ex.nodes = p.nodes := by
  induction p with
  | num n => rfl
  | name s => rfl
  | two s a b ia ib => simp only [Pt.ex, Ex.nodes, Ex.nodess, Pt.nodes, ia, ib]; omega
  | as s a ia => simp only [Pt.ex, Ex.nodes, Ex.nodess, Pt.nodes, ia]; omega
theorem Pt.nodes_pos (p : Pt) : 1 ≤ p.nodes := by cases p <;> simp [Pt.nodes]
theorem Pt.depth_pos (p : Pt) : 1 ≤ p.depth := by cases p <;> simp [Pt.depth]
def Pt.ok (p : Pt) : Bool := p.fine && (decide (p.depth ≤ 5) && decide (p.nodes ≤ 12))

def twoOf (f : Ex → Option Pt) (s : ByteArray) : List Ex → Option Pt
  | [a, b] => (f a).bind fun p => (f b).map fun q => .two s p q
  | _ => none
def asOf (f : Ex → Option Pt) (s : ByteArray) : List Ex → Option Pt
  | [a] => (f a).map fun p => .as s p
  | _ => none
def ptStep (f : Ex → Option Pt) (k n : Int) (s : ByteArray) (ks : List Ex) : Option Pt :=
  if k = 1 then (if 0 ≤ n ∧ n ≤ 1000000 ∧ s = ByteArray.empty ∧ ks = [] then some (.num n) else none)
  else if k = 2 then (if n = 0 ∧ nameB s = true ∧ ks = [] then some (.name s) else none)
  else if k = 3 then (if n = 0 ∧ hold s ≠ 0 then twoOf f s ks else none)
  else if k = 4 then (if n = 0 ∧ typeB s = true then asOf f s ks else none)
  else none
/-- The part that it is, not deeper than so. -/
def ptOf : Nat → Ex → Option Pt
  | 0, _ => none
  | d + 1, e => ptStep (ptOf d) e.kind e.n e.s e.kids
theorem ptOf_ex (d : Nat) : ∀ (e : Ex) (p : Pt), ptOf d e = some p → e = p.ex ∧ p.fine = true ∧ p.depth ≤ d := by
  induction d with
  | zero => intro e p h; simp [ptOf] at h
  | succ d ih =>
    intro e p h
    obtain ⟨k, n, s, ks⟩ := e
    rw [ptOf] at h
    simp only [Ex.kind, Ex.n, Ex.s, Ex.kids] at h
    unfold ptStep at h
    split at h
    · rename_i hk; subst hk
      split at h
      · rename_i hh; obtain ⟨h1, h2, rfl, rfl⟩ := hh
        cases h
        exact ⟨rfl, by simp [Pt.fine, h1, h2], by simp [Pt.depth]⟩
      · cases h
    · split at h
      · rename_i _ hk; subst hk
        split at h
        · rename_i hh; obtain ⟨rfl, h2, rfl⟩ := hh
          cases h
          exact ⟨rfl, h2, by simp [Pt.depth]⟩
        · cases h
      · split at h
        · rename_i _ _ hk; subst hk
          split at h
          · rename_i hh
            obtain ⟨rfl, h2⟩ := hh
            unfold twoOf at h
            split at h
            · rename_i a b
              obtain ⟨pa, ea, h⟩ := Option.bind_eq_some_iff.1 h
              obtain ⟨pb, eb, h⟩ := Option.map_eq_some_iff.1 h
              subst h
              obtain ⟨rfl, f1, d1⟩ := ih _ _ ea
              obtain ⟨rfl, f2, d2⟩ := ih _ _ eb
              exact ⟨rfl, by simp [Pt.fine, h2, f1, f2], by simp [Pt.depth]; omega⟩
            · cases h
          · cases h
        · split at h
          · rename_i _ _ _ hk; subst hk
            split at h
            · rename_i hh
              obtain ⟨rfl, h2⟩ := hh
              unfold asOf at h
              split at h
              · obtain ⟨pa, ea, h⟩ := Option.map_eq_some_iff.1 h
                subst h
                obtain ⟨rfl, f1, d1⟩ := ih _ _ ea
                exact ⟨rfl, by simp [Pt.fine, h2, f1], by simp [Pt.depth]; omega⟩
              · cases h
            · cases h
          · cases h
theorem ptOf_of (p : Pt) : ∀ d, p.fine = true → p.depth ≤ d → ptOf d p.ex = some p := by
  induction p with
  | num n =>
    intro d h1 h2
    obtain ⟨d, rfl⟩ : ∃ x, d = x + 1 := ⟨d - 1, by simp [Pt.depth] at h2; omega⟩
    simp [Pt.fine] at h1
    simp [Pt.ex, ptOf, ptStep, Ex.kind, Ex.n, Ex.s, Ex.kids, h1]
  | name s =>
    intro d h1 h2
    obtain ⟨d, rfl⟩ : ∃ x, d = x + 1 := ⟨d - 1, by simp [Pt.depth] at h2; omega⟩
    simp [Pt.fine] at h1
    simp [Pt.ex, ptOf, ptStep, Ex.kind, Ex.n, Ex.s, Ex.kids, h1]
  | two s a b ia ib =>
    intro d h1 h2
    obtain ⟨d, rfl⟩ : ∃ x, d = x + 1 := ⟨d - 1, by simp [Pt.depth] at h2; omega⟩
    simp [Pt.fine] at h1
    simp [Pt.depth] at h2
    simp [Pt.ex, ptOf, ptStep, twoOf, Ex.kind, Ex.n, Ex.s, Ex.kids, h1, ia d h1.2.1 (by omega), ib d h1.2.2 (by omega)]
  | as s a ia =>
    intro d h1 h2
    obtain ⟨d, rfl⟩ : ∃ x, d = x + 1 := ⟨d - 1, by simp [Pt.depth] at h2; omega⟩
    simp [Pt.fine] at h1
    simp [Pt.depth] at h2
    simp [Pt.ex, ptOf, ptStep, asOf, Ex.kind, Ex.n, Ex.s, Ex.kids, h1, ia d h1.2 (by omega)]
/-- Whether it can be reckoned. -/
def okE (e : Ex) : Bool := (ptOf 5 e).isSome && decide (e.nodes ≤ 12)
theorem okE_iff (e : Ex) : okE e = true ↔ ∃ p : Pt, e = p.ex ∧ p.ok = true := by
  unfold okE Pt.ok
  rw [Bool.and_eq_true, decide_eq_true_eq]
  constructor
  · rintro ⟨h1, h2⟩
    obtain ⟨p, hp⟩ := Option.isSome_iff_exists.1 h1
    obtain ⟨rfl, f, d⟩ := ptOf_ex _ _ _ hp
    rw [Pt.nodes_ex] at h2
    exact ⟨p, rfl, by simp [f, d, h2]⟩
  · rintro ⟨p, rfl, h⟩
    simp only [Bool.and_eq_true, decide_eq_true_eq] at h
    rw [ptOf_of p 5 h.1 h.2.1, Pt.nodes_ex]
    exact ⟨rfl, h.2.2⟩

/-- The part that it is, if it is ok. -/
def okP (e : Ex) : Option Pt := if e.nodes ≤ 12 then ptOf 5 e else none
theorem okP_isSome (e : Ex) : (okP e).isSome = okE e := by
  unfold okP okE
  split
  · rename_i h; simp [h]
  · rename_i h; simp [h]
theorem okP_some {e : Ex} {p : Pt} (h : okP e = some p) : e = p.ex ∧ p.ok = true := by
  unfold okP at h
  split at h
  · rename_i hn
    obtain ⟨rfl, f, d⟩ := ptOf_ex _ _ _ h
    rw [Pt.nodes_ex] at hn
    exact ⟨rfl, by simp [Pt.ok, f, d, hn]⟩
  · cases h
theorem okP_ex {p : Pt} (h : p.ok = true) : okP p.ex = some p := by
  simp only [Pt.ok, Bool.and_eq_true, decide_eq_true_eq] at h
  unfold okP
  rw [Pt.nodes_ex, if_pos h.2.2]
  exact ptOf_of p 5 h.1 h.2.1

/-- How tight a part holds. -/
def Pt.lvl : Pt → Nat
  | .two s _ _ => hold s
  | _ => 4
def decS (n : Int) : ByteArray := ⟨(Lib.decDigits n.toNat).toArray⟩
def wrapW (b : Bool) (ws : List ByteArray) : List ByteArray := if b then [sLp] ++ ws ++ [sRp] else ws
/-- The words, without brackets around them. -/
def Pt.words : Pt → List ByteArray
  | .num n => [decS n]
  | .name s => [s]
  | .two s a b => wrapW (decide (a.lvl < max (hold s) 2)) a.words ++ [s] ++ wrapW (decide (b.lvl < hold s + 1)) b.words
  | .as s a => wrapW (decide (a.lvl < 4)) a.words ++ [sAs, s]
def Pt.at (p : Pt) (t : Nat) : List ByteArray := wrapW (decide (p.lvl < t)) p.words
theorem Pt.words_pos (p : Pt) : 1 ≤ p.words.length := by cases p <;> simp [Pt.words] <;> omega
theorem wrapW_length (b : Bool) (ws : List ByteArray) : (wrapW b ws).length ≤ ws.length + 2 := by unfold wrapW; split <;> simp
theorem Pt.words_length (p : Pt) : p.words.length ≤ 6 * p.nodes := by
  induction p with
  | num n => simp [Pt.words, Pt.nodes]
  | name s => simp [Pt.words, Pt.nodes]
  | two s a b ia ib =>
    have h1 := wrapW_length (decide (a.lvl < max (hold s) 2)) a.words
    have h2 := wrapW_length (decide (b.lvl < hold s + 1)) b.words
    simp only [Pt.words, Pt.nodes, List.length_append, List.length_cons, List.length_nil]; omega
  | as s a ia =>
    have h1 := wrapW_length (decide (a.lvl < 4)) a.words
    simp only [Pt.words, Pt.nodes, List.length_append, List.length_cons, List.length_nil]; omega

/-- Without types. -/
def Pt.bare : Pt → Pt
  | .num n => .num n
  | .name s => .name s
  | .two s a b => .two s a.bare b.bare
  | .as _ a => a.bare
/-- The last place of a name. -/
def findL (names : List ByteArray) (s : ByteArray) : Nat → Option Nat
  | 0 => none
  | k + 1 => if names.getD k ByteArray.empty = s then some k else findL names s k
def lastOf (names : List ByteArray) (s : ByteArray) : Option Nat := findL names s names.length
theorem findL_lt {names : List ByteArray} {s : ByteArray} : ∀ {k i : Nat}, findL names s k = some i → i < k := by
  intro k
  induction k with
  | zero => intro i h; cases h
  | succ k ih =>
    intro i h
    rw [findL] at h
    split at h
    · cases h; omega
    · have := ih h; omega
def Pt.typ (names types : List ByteArray) : Pt → ByteArray
  | .num _ => sInt
  | .name s => match lastOf names s with
    | some i => types.getD i ByteArray.empty
    | none => ByteArray.empty
  | .as s a => if a.typ names types = ByteArray.empty then ByteArray.empty else s
  | .two s a b => if a.typ names types = sInt ∧ b.typ names types = sInt then (if s = sLess then sBool else sInt) else ByteArray.empty
def cutN (n : Int) : Int := max (-1000000) (min 1000000 n)
def twoN (s : ByteArray) (a b : Int) : Int := if s = sPlus then cutN (a + b) else if s = sMinus then cutN (a - b) else if s = sTimes then cutN (a * b) else if a < b then 1 else 0
def Pt.of (names : List ByteArray) (nums : List Int) : Pt → Option Int
  | .num n => some n
  | .name s => (lastOf names s).map (fun i => cutN (nums.getD i 0))
  | .as _ a => a.of names nums
  | .two s a b => match a.of names nums, b.of names nums with
    | some x, some y => some (twoN s x y)
    | _, _ => none
theorem cutN_bounds (n : Int) : -1000000 ≤ cutN n ∧ cutN n ≤ 1000000 := by unfold cutN; omega
theorem cutN_in {n : Int} (h0 : -1000000 ≤ n) (h1 : n ≤ 1000000) : cutN n = n := by unfold cutN; omega
theorem twoN_bounds (s : ByteArray) (a b : Int) : -1000000 ≤ twoN s a b ∧ twoN s a b ≤ 1000000 := by
  unfold twoN
  split
  · exact cutN_bounds _
  · split
    · exact cutN_bounds _
    · split
      · exact cutN_bounds _
      · split <;> omega
theorem Pt.of_bounds (names : List ByteArray) (nums : List Int) (p : Pt) : p.fine = true → ∀ v, p.of names nums = some v → -1000000 ≤ v ∧ v ≤ 1000000 := by
  induction p with
  | num n => intro h v hv; simp [Pt.fine] at h; simp [Pt.of] at hv; omega
  | name s =>
    intro h v hv
    simp only [Pt.of, Option.map_eq_some_iff] at hv
    obtain ⟨i, _, rfl⟩ := hv
    exact cutN_bounds _
  | as s a ia => intro h v hv; simp [Pt.fine] at h; exact ia h.2 v hv
  | two s a b ia ib =>
    intro h v hv
    rw [Pt.of] at hv
    split at hv
    · cases hv; exact twoN_bounds _ _ _
    · cases hv
end Go.Proofs.YtabignplhkbcpaaGreatDoor

namespace Go.Proofs.YtabignplhkbcpaaGreatDoor

mutual
/-- Whether two are the same. -/
def sameE : Ex → Ex → Bool
  | .mk k n s ks, .mk k' n' s' ks' => decide (k = k') && (decide (n = n') && (decide (s = s') && sameL ks ks'))
def sameL : List Ex → List Ex → Bool
  | [], [] => true
  | x :: xs, y :: ys => sameE x y && sameL xs ys
  | [], _ :: _ => false
  | _ :: _, [] => false
end
theorem sameL_iff_of {xs : List Ex} (h : ∀ x ∈ xs, ∀ y, sameE x y = true ↔ x = y) : ∀ ys, sameL xs ys = true ↔ xs = ys := by
  induction xs with
  | nil => intro ys; cases ys <;> simp [sameL]
  | cons x xs ih =>
    intro ys
    cases ys with
    | nil => simp [sameL]
    | cons y ys => simp [sameL, h x (by simp) y, ih (fun z hz => h z (by simp [hz])) ys]
theorem sameE_iff (a : Ex) : ∀ b, sameE a b = true ↔ a = b := by
  induction a using Ex.ind with
  | h k n s ks ih =>
    intro b
    obtain ⟨k', n', s', ks'⟩ := b
    simp [sameE, sameL_iff_of ih ks']
theorem sameE_eq (a b : Ex) (h : a = b) : sameE a b = true := (sameE_iff a b).2 h
theorem sameE_ne (a b : Ex) (h : a ≠ b) : sameE a b = false := by
  cases hs : sameE a b
  · rfl
  · exact absurd ((sameE_iff a b).1 hs) h
theorem sameE_self (a : Ex) : sameE a a = true := sameE_eq a a rfl
theorem sameE_comm (a b : Ex) : sameE a b = sameE b a := by
  by_cases h : a = b
  · subst h; rfl
  · rw [sameE_ne a b h, sameE_ne b a (fun e => h e.symm)]

/-- The two are the same, but for what their kids are. -/
def Alone2 (x y : Ex) : Prop := x.kind = y.kind ∧ x.n = y.n ∧ x.s = y.s ∧ x.kids.length = y.kids.length
theorem Alone2.kids {x y : Ex} (h : Alone2 x y) (hk : x.kids = y.kids) : x = y := by
  obtain ⟨k, n, s, ks⟩ := x
  obtain ⟨k', n', s', ks'⟩ := y
  obtain ⟨h1, h2, h3, _⟩ := h
  simp only [Ex.kind, Ex.n, Ex.s, Ex.kids] at h1 h2 h3 hk
  rw [h1, h2, h3, hk]
theorem alone_self (x : Ex) : Alone2 x x := ⟨rfl, rfl, rfl, rfl⟩
/-- A pair that is on the stack, or was held and found the same alone, with its lists of kids among those that were taken. -/
def Cov (S : List (List Ex × List Ex)) (wk : List (Ex × Ex)) (x y : Ex) : Prop := (x, y) ∈ wk ∨ (Alone2 x y ∧ (x.kids = [] ∨ (x.kids, y.kids) ∈ S))
structure SInv (a b : Ex) (S : List (List Ex × List Ex)) (wk : List (Ex × Ex)) : Prop where
  top : Cov S wk a b
  kids : ∀ p ∈ S, p.1.length = p.2.length ∧ ∀ j (h : j < p.1.length) (h' : j < p.2.length), Cov S wk p.1[j] p.2[j]
  down : a = b → ∀ p ∈ wk, p.1 = p.2
theorem SInv.start (a b : Ex) : SInv a b [] [(a, b)] :=
  ⟨.inl (by simp), (fun p hp => by cases hp), fun h p hp => by simp at hp; rw [hp]; exact h⟩
theorem SInv.done {a b : Ex} {S : List (List Ex × List Ex)} (h : SInv a b S []) : a = b := by
  have all : ∀ x : Ex, ∀ y, Cov S [] x y → x = y := by
    intro x
    induction x using Ex.ind with
    | h k n s ks ih =>
      intro y hc
      rcases hc with hc | ⟨ha, hc⟩
      · cases hc
      · refine ha.kids ?_
        simp only [Ex.kids] at hc ⊢
        rcases hc with hc | hc
        · have h4 := ha.2.2.2
          simp only [Ex.kids] at h4
          rw [hc] at h4 ⊢
          exact (List.eq_nil_of_length_eq_zero (by simpa [Ex.kids] using h4.symm)).symm
        · obtain ⟨hl, hj⟩ := h.kids _ hc
          refine List.ext_getElem hl (fun j h1 h2 => ?_)
          exact ih _ (List.getElem_mem h1) _ (hj j h1 h2)
  exact all a b h.top
theorem SInv.fail {a b x y : Ex} {S : List (List Ex × List Ex)} {wk : List (Ex × Ex)} (h : SInv a b S (wk ++ [(x, y)])) (hn : ¬ Alone2 x y) : a ≠ b := by
  intro e
  have := h.down e (x, y) (by simp)
  simp only at this
  subst this
  exact hn (alone_self x)
theorem Cov.pop {x y u v : Ex} {S S' : List (List Ex × List Ex)} {wk : List (Ex × Ex)} (h : Cov S (wk ++ [(x, y)]) u v) (hS : ∀ p ∈ S, p ∈ S') (ha : Alone2 x y) (hk : x.kids = [] ∨ (x.kids, y.kids) ∈ S') : Cov S' wk u v := by
  rcases h with h | ⟨h1, h2⟩
  · rcases List.mem_append.1 h with h | h
    · exact .inl h
    · simp at h
      obtain ⟨rfl, rfl⟩ := h
      exact .inr ⟨ha, hk⟩
  · exact .inr ⟨h1, h2.imp id (hS _)⟩
theorem Cov.more {x y : Ex} {S : List (List Ex × List Ex)} {wk more : List (Ex × Ex)} (h : Cov S wk x y) : Cov S (wk ++ more) x y := by
  rcases h with h | h
  · exact .inl (by simp [h])
  · exact .inr h
theorem SInv.skip {a b x y : Ex} {S : List (List Ex × List Ex)} {wk : List (Ex × Ex)} (h : SInv a b S (wk ++ [(x, y)])) (ha : Alone2 x y) (hk : x.kids = [] ∨ (x.kids, y.kids) ∈ S) : SInv a b S wk :=
  ⟨h.top.pop (fun _ h => h) ha hk, fun p hp => ⟨(h.kids p hp).1, fun j h1 h2 => ((h.kids p hp).2 j h1 h2).pop (fun _ h => h) ha hk⟩, fun e p hp => h.down e p (by simp [hp])⟩
theorem SInv.push {a b x y : Ex} {S : List (List Ex × List Ex)} {wk : List (Ex × Ex)} (h : SInv a b S (wk ++ [(x, y)])) (ha : Alone2 x y) : SInv a b ((x.kids, y.kids) :: S) (wk ++ x.kids.zip y.kids) := by
  have hk : x.kids = [] ∨ (x.kids, y.kids) ∈ (x.kids, y.kids) :: S := .inr (by simp)
  have hS : ∀ p ∈ S, p ∈ (x.kids, y.kids) :: S := fun p hp => by simp [hp]
  refine ⟨(h.top.pop hS ha hk).more, fun p hp => ?_, fun e p hp => ?_⟩
  · rcases List.mem_cons.1 hp with rfl | hp
    · refine ⟨ha.2.2.2, fun j h1 h2 => .inl (List.mem_append_right _ ?_)⟩
      simp only at h1 h2 ⊢
      exact List.mem_iff_getElem.2 ⟨j, by simp [List.length_zip]; omega, by simp⟩
    · exact ⟨(h.kids p hp).1, fun j h1 h2 => (((h.kids p hp).2 j h1 h2).pop hS ha hk).more⟩
  · rcases List.mem_append.1 hp with hp | hp
    · exact h.down e p (by simp [hp])
    · have hxy := h.down e (x, y) (by simp)
      simp only at hxy
      subst hxy
      obtain ⟨j, hj, rfl⟩ := List.mem_iff_getElem.1 hp
      simp
/-- How many parts are on the stack. -/
def stackN (wk : List (Ex × Ex)) : Nat := (wk.map (fun p => p.1.nodes)).sum
theorem stackN_append (xs ys : List (Ex × Ex)) : stackN (xs ++ ys) = stackN xs + stackN ys := by simp [stackN]
theorem stackN_one (p : Ex × Ex) : stackN [p] = p.1.nodes := by simp [stackN]
theorem nodes_pos (e : Ex) : 1 ≤ e.nodes := by obtain ⟨k, n, s, ks⟩ := e; simp only [Ex.nodes]; omega
theorem nodes_kids (e : Ex) : e.nodes = 1 + Ex.nodess e.kids := by obtain ⟨k, n, s, ks⟩ := e; rfl
theorem stackN_zip (xs : List Ex) : ∀ ys : List Ex, xs.length = ys.length → stackN (xs.zip ys) = Ex.nodess xs := by
  induction xs with
  | nil => intro ys _; rfl
  | cons x xs ih =>
    intro ys h
    cases ys with
    | nil => simp at h
    | cons y ys =>
      have h1 := ih ys (by simpa using h)
      simp only [stackN, List.zip_cons_cons, List.map_cons, List.sum_cons, Ex.nodess] at h1 ⊢
      rw [h1]
theorem stackN_length (wk : List (Ex × Ex)) : wk.length ≤ stackN wk := by
  induction wk with
  | nil => simp
  | cons p wk ih =>
    have := nodes_pos p.1
    simp only [stackN, List.map_cons, List.sum_cons, List.length_cons] at ih ⊢
    omega
end Go.Proofs.YtabignplhkbcpaaGreatDoor

namespace Go.Proofs.YtabignplhkbcpaaGreatDoor

/-- A line, as Go holds it. -/
structure St where
  kind : Int
  name : ByteArray
  typ : ByteArray
  e : Ex
  t : Ex
def St.wt (s : St) : Nat := s.name.size + s.typ.size + s.e.wt + s.t.wt
/-- Whether two are the same. -/
def sameS (a b : St) : Bool := decide (a.kind = b.kind) && (decide (a.name = b.name) && (decide (a.typ = b.typ) && (sameE a.e b.e && sameE a.t b.t)))
theorem sameS_iff (a b : St) : sameS a b = true ↔ a = b := by
  obtain ⟨k, n, t, x, y⟩ := a
  obtain ⟨k', n', t', x', y'⟩ := b
  simp [sameS, sameE_iff]
theorem sameS_self (a : St) : sameS a a = true := (sameS_iff a a).2 rfl
end Go.Proofs.YtabignplhkbcpaaGreatDoor

namespace Go.Proofs.YtabignplhkbcpaaGreatDoor

/-- A line, as Go holds it. -/
structure Br where
  kind : Int
  name : ByteArray
  e : Ex
  t : Ex
def Br.wt (s : Br) : Nat := s.name.size + s.e.wt + s.t.wt
/-- Whether two are the same. -/
def sameB (a b : Br) : Bool := decide (a.kind = b.kind) && (decide (a.name = b.name) && (sameE a.e b.e && sameE a.t b.t))
theorem sameB_iff (a b : Br) : sameB a b = true ↔ a = b := by
  obtain ⟨k, n, x, y⟩ := a
  obtain ⟨k', n', x', y'⟩ := b
  simp [sameB, sameE_iff]
theorem sameB_self (a : Br) : sameB a a = true := (sameB_iff a a).2 rfl
end Go.Proofs.YtabignplhkbcpaaGreatDoor

namespace Go.Proofs.YtabignplhkbcpaaGreatDoor

theorem ok_two {s : ByteArray} {a b : Pt} (h : (Pt.two s a b).ok = true) : hold s ≠ 0 ∧ a.ok = true ∧ b.ok = true := by
  simp only [Pt.ok, Pt.fine, Pt.depth, Pt.nodes, Bool.and_eq_true, decide_eq_true_eq] at h ⊢
  have := a.nodes_pos
  have := b.nodes_pos
  obtain ⟨⟨h1, h2, h3⟩, h4, h5⟩ := h
  replace h4 := of_decide_eq_true h4
  replace h5 := of_decide_eq_true h5
  exact ⟨h1, ⟨h2, by omega, by omega⟩, ⟨h3, by omega, by omega⟩⟩
theorem ok_as {s : ByteArray} {a : Pt} (h : (Pt.as s a).ok = true) : typeB s = true ∧ a.ok = true := by
  simp only [Pt.ok, Pt.fine, Pt.depth, Pt.nodes, Bool.and_eq_true, decide_eq_true_eq] at h ⊢
  obtain ⟨⟨h1, h2⟩, h4, h5⟩ := h
  replace h4 := of_decide_eq_true h4
  replace h5 := of_decide_eq_true h5
  exact ⟨h1, ⟨h2, by omega, by omega⟩⟩
theorem ok_fine {p : Pt} (h : p.ok = true) : p.fine = true := by
  simp only [Pt.ok, Bool.and_eq_true] at h; exact h.1
theorem ok_bare {p : Pt} (h : p.ok = true) : p.bare.ok = true := by
  have aux : ∀ p : Pt, (p.fine = true → p.bare.fine = true) ∧ p.bare.depth ≤ p.depth ∧ p.bare.nodes ≤ p.nodes := by
    intro p
    induction p with
    | num n => exact ⟨id, Nat.le_refl _, Nat.le_refl _⟩
    | name s => exact ⟨id, Nat.le_refl _, Nat.le_refl _⟩
    | two s a b ia ib =>
      refine ⟨fun h => ?_, ?_, ?_⟩
      · simp only [Pt.fine, Pt.bare, Bool.and_eq_true] at h ⊢
        exact ⟨h.1, ia.1 h.2.1, ib.1 h.2.2⟩
      · simp only [Pt.depth, Pt.bare]; omega
      · simp only [Pt.nodes, Pt.bare]; omega
    | as s a ia =>
      refine ⟨fun h => ?_, ?_, ?_⟩
      · simp only [Pt.fine, Pt.bare, Bool.and_eq_true] at h ⊢
        exact ia.1 h.2
      · simp only [Pt.depth, Pt.bare]; omega
      · simp only [Pt.nodes, Pt.bare]; omega
  obtain ⟨a1, a2, a3⟩ := aux p
  simp only [Pt.ok, Bool.and_eq_true, decide_eq_true_eq] at h ⊢
  exact ⟨a1 h.1, by omega, by omega⟩

theorem mul_bounds {a b : Int} (ha0 : -1000000 ≤ a) (ha1 : a ≤ 1000000) (hb0 : -1000000 ≤ b) (hb1 : b ≤ 1000000) : -1000000000000 ≤ a * b ∧ a * b ≤ 1000000000000 := by
  have p1 := Int.mul_nonneg (show 0 ≤ 1000000 - a by omega) (show 0 ≤ 1000000 + b by omega)
  have p2 := Int.mul_nonneg (show 0 ≤ 1000000 + a by omega) (show 0 ≤ 1000000 - b by omega)
  have p3 := Int.mul_nonneg (show 0 ≤ 1000000 - a by omega) (show 0 ≤ 1000000 - b by omega)
  have p4 := Int.mul_nonneg (show 0 ≤ 1000000 + a by omega) (show 0 ≤ 1000000 + b by omega)
  rw [Int.sub_mul, Int.mul_add, Int.mul_add] at p1
  rw [Int.add_mul, Int.mul_sub, Int.mul_sub] at p2
  rw [Int.sub_mul, Int.mul_sub, Int.mul_sub] at p3
  rw [Int.add_mul, Int.mul_add, Int.mul_add] at p4
  omega
/-- What it comes to. -/
def ofE (e : Ex) (names : List ByteArray) (nums : List Int) : Option Int := if names.length = nums.length then (okP e).bind (fun p => p.of names nums) else none
/-- Its type. -/
def typE (e : Ex) (names types : List ByteArray) : ByteArray := match okP e with
  | some p => if names.length = types.length ∧ types.all typeB = true then p.typ names types else ByteArray.empty
  | none => ByteArray.empty
theorem ofE_bounds {e : Ex} {names : List ByteArray} {nums : List Int} {v : Int} (h : ofE e names nums = some v) : -1000000 ≤ v ∧ v ≤ 1000000 := by
  unfold ofE at h
  split at h
  · obtain ⟨p, hp, hv⟩ := Option.bind_eq_some_iff.1 h
    exact Pt.of_bounds names nums p (ok_fine (okP_some hp).2) v hv
  · cases h
theorem sInt_ne : sInt ≠ ByteArray.empty := by decide
theorem sBool_ne : sBool ≠ ByteArray.empty := by decide
theorem type_ne {s : ByteArray} (h : typeB s = true) : s ≠ ByteArray.empty := by rintro rfl; revert h; decide
theorem type_cases {s : ByteArray} (h : typeB s = true) : s = sInt ∨ s = sBool := by
  simp only [typeB, Bool.or_eq_true, decide_eq_true_eq] at h; exact h
theorem typ_typed {names types : List ByteArray} {nums : List Int} (p : Pt) : p.typ names types ≠ ByteArray.empty → ∃ v, p.of names nums = some v := by
  induction p with
  | num n => intro _; exact ⟨n, rfl⟩
  | name s =>
    intro h
    rw [Pt.typ] at h
    rw [Pt.of]
    cases hl : lastOf names s with
    | none => rw [hl] at h; exact absurd rfl h
    | some i => exact ⟨_, rfl⟩
  | two s a b ia ib =>
    intro h
    rw [Pt.typ] at h
    split at h
    · rename_i hh
      obtain ⟨x, hx⟩ := ia (by rw [hh.1]; exact sInt_ne)
      obtain ⟨y, hy⟩ := ib (by rw [hh.2]; exact sInt_ne)
      exact ⟨twoN s x y, by rw [Pt.of, hx, hy]⟩
    · exact absurd rfl h
  | as s a ia =>
    intro h
    rw [Pt.typ] at h
    split at h
    · exact absurd rfl h
    · rename_i hh
      exact ia hh
theorem typ_kind {names types : List ByteArray} (ht : types.all typeB = true) (p : Pt) : p.fine = true → p.typ names types = ByteArray.empty ∨ typeB (p.typ names types) = true := by
  induction p with
  | num n => intro _; exact .inr rfl
  | name s =>
    intro _
    rw [Pt.typ]
    cases hl : lastOf names s with
    | none => exact .inl rfl
    | some i =>
      simp only
      by_cases hi : i < types.length
      · right
        simp only [List.getD, List.getElem?_eq_getElem hi, Option.getD_some]
        exact List.all_eq_true.1 ht _ (List.getElem_mem hi)
      · left; simp [List.getD, List.getElem?_eq_none (Nat.le_of_not_lt hi)]
  | two s a b ia ib =>
    intro _
    rw [Pt.typ]
    split
    · right; split <;> rfl
    · exact .inl rfl
  | as s a ia =>
    intro h
    simp only [Pt.fine, Bool.and_eq_true] at h
    rw [Pt.typ]
    split
    · exact .inl rfl
    · exact .inr h.1
theorem findL_app {names more : List ByteArray} {s : ByteArray} : ∀ k, k ≤ names.length → findL (names ++ more) s k = findL names s k := by
  intro k
  induction k with
  | zero => intro _; rfl
  | succ k ih =>
    intro h
    have e : (names ++ more).getD k ByteArray.empty = names.getD k ByteArray.empty := by simp only [List.getD, List.getElem?_append_left (show k < names.length by omega)]
    rw [findL, findL, ih (by omega), e]
theorem lastOf_snoc {names : List ByteArray} {u s : ByteArray} (h : u ≠ s) : lastOf (names ++ [u]) s = lastOf names s := by
  unfold lastOf
  rw [List.length_append, List.length_singleton, findL]
  have : (names ++ [u]).getD names.length ByteArray.empty = u := by simp [List.getD]
  rw [this, if_neg h, findL_app _ (Nat.le_refl _)]
theorem lastOf_snoc_same {names : List ByteArray} {u : ByteArray} : lastOf (names ++ [u]) u = some names.length := by
  unfold lastOf
  rw [List.length_append, List.length_singleton, findL]
  have : (names ++ [u]).getD names.length ByteArray.empty = u := by simp [List.getD]
  rw [this, if_pos rfl]
theorem findL_pre {pre names : List ByteArray} {s : ByteArray} : ∀ k i, findL names s k = some i → findL (pre ++ names) s (pre.length + k) = some (pre.length + i) := by
  intro k
  induction k with
  | zero => intro i h; cases h
  | succ k ih =>
    intro i h
    rw [findL] at h
    rw [← Nat.add_assoc, findL]
    have e : (pre ++ names).getD (pre.length + k) ByteArray.empty = names.getD k ByteArray.empty := by
      simp [List.getD, List.getElem?_append_right]
    rw [e]
    split at h
    · rename_i hh
      cases h
      rw [if_pos hh]
    · rename_i hh
      rw [if_neg hh]
      exact ih i h
theorem lastOf_pre {pre names : List ByteArray} {s : ByteArray} {i : Nat} (h : lastOf names s = some i) : lastOf (pre ++ names) s = some (pre.length + i) := by
  unfold lastOf at h ⊢
  rw [List.length_append]
  exact findL_pre _ _ h
/-- No name in it is this one. -/
def Pt.free (u : ByteArray) : Pt → Prop
  | .num _ => True
  | .name s => u ≠ s
  | .two _ a b => a.free u ∧ b.free u
  | .as _ a => a.free u
theorem of_snoc {names : List ByteArray} {nums : List Int} {u : ByteArray} {z : Int} (hl : names.length = nums.length) (p : Pt) : p.free u → p.of (names ++ [u]) (nums ++ [z]) = p.of names nums := by
  induction p with
  | num n => intro _; rfl
  | name s =>
    intro h
    rw [Pt.of, Pt.of, lastOf_snoc h]
    cases hf : lastOf names s with
    | none => rfl
    | some i =>
      have := findL_lt hf
      simp only [Option.map_some, List.getD, List.getElem?_append_left (show i < nums.length by omega)]
  | two s a b ia ib => intro h; rw [Pt.of, Pt.of, ia h.1, ib h.2]
  | as s a ia => intro h; exact ia h
theorem of_pre {pre names : List ByteArray} {zs nums : List Int} (hp : pre.length = zs.length) (p : Pt) : ∀ v, p.of names nums = some v → p.of (pre ++ names) (zs ++ nums) = some v := by
  induction p with
  | num n => intro v h; exact h
  | name s =>
    intro v h
    rw [Pt.of] at h ⊢
    cases hf : lastOf names s with
    | none => rw [hf] at h; cases h
    | some i =>
      rw [hf] at h
      rw [lastOf_pre hf, hp]
      simp only [Option.map_some, List.getD, List.getElem?_append_right (show zs.length ≤ zs.length + i by omega), Nat.add_sub_cancel_left] at h ⊢
      exact h
  | two s a b ia ib =>
    intro v h
    rw [Pt.of] at h ⊢
    cases ha : a.of names nums with
    | none => rw [ha] at h; cases h
    | some x =>
      cases hb : b.of names nums with
      | none => rw [ha, hb] at h; cases h
      | some y =>
        rw [ha, hb] at h
        rw [ia x ha, ib y hb]
        exact h
  | as s a ia => intro v h; exact ia v h
theorem typ_pre {pre names tp types : List ByteArray} (hp : pre.length = tp.length) (p : Pt) : p.typ names types ≠ ByteArray.empty → p.typ (pre ++ names) (tp ++ types) = p.typ names types := by
  induction p with
  | num n => intro _; rfl
  | name s =>
    intro h
    rw [Pt.typ] at h ⊢
    rw [Pt.typ]
    cases hf : lastOf names s with
    | none => rw [hf] at h; exact absurd rfl h
    | some i =>
      rw [lastOf_pre hf, hp]
      simp only [List.getD, List.getElem?_append_right (show tp.length ≤ tp.length + i by omega), Nat.add_sub_cancel_left]
  | two s a b ia ib =>
    intro h
    rw [Pt.typ] at h
    split at h
    · rename_i hh
      rw [Pt.typ, Pt.typ, ia (by rw [hh.1]; exact sInt_ne), ib (by rw [hh.2]; exact sInt_ne)]
    · exact absurd rfl h
  | as s a ia =>
    intro h
    rw [Pt.typ] at h
    split at h
    · exact absurd rfl h
    · rename_i hh
      rw [Pt.typ, Pt.typ, ia hh]
theorem bare_of {names : List ByteArray} {nums : List Int} (p : Pt) : p.bare.of names nums = p.of names nums := by
  induction p with
  | num n => rfl
  | name s => rfl
  | two s a b ia ib => rw [Pt.bare, Pt.of, Pt.of, ia, ib]
  | as s a ia => rw [Pt.bare, Pt.of, ia]
theorem bare_bare (p : Pt) : p.bare.bare = p.bare := by
  induction p with
  | num n => rfl
  | name s => rfl
  | two s a b ia ib => rw [Pt.bare, Pt.bare, ia, ib]
  | as s a ia => exact ia
end Go.Proofs.YtabignplhkbcpaaGreatDoor
