/-
  Plain mathematics of cutting a line into words. No Go.
-/
import Derived.Test.YtaclndbilpaboaaGreatDoorTokMath
namespace Go.Proofs.YtaclndbilpaboaaGreatDoor

structure Tk where
  kind : Nat
  s : List UInt8
  col : Nat

/-- The bytes behind the first that belong to its word. -/
def runL (c : UInt8) (l : List UInt8) : List UInt8 := if isLet c then l.takeWhile isLet else if isDig c then l.takeWhile isDig else []

theorem runL_length (c : UInt8) (l : List UInt8) : (runL c l).length ≤ l.length := by
  unfold runL
  split
  · exact (List.takeWhile_prefix _).length_le
  · split
    · exact (List.takeWhile_prefix _).length_le
    · simp

theorem runL_split (c : UInt8) (l : List UInt8) : l = runL c l ++ l.drop (runL c l).length := by
  have : runL c l <+: l := by
    unfold runL
    split
    · exact List.takeWhile_prefix _
    · split
      · exact List.takeWhile_prefix _
      · exact List.nil_prefix
  obtain ⟨q, hq⟩ := this
  have h := congrArg (List.drop (runL c l).length) hq
  rw [List.drop_left] at h
  rw [← h]
  exact hq.symm

/-- The words of what is left of a line, from this byte on. -/
def toks (col : Nat) : List UInt8 → Option (List Tk)
  | [] => some []
  | c :: l =>
    if c = 32 then toks (col + 1) l
    else if kindL (c :: runL c l) = 0 then none
    else (toks (col + (1 + (runL c l).length)) (l.drop (runL c l).length)).map (⟨kindL (c :: runL c l), c :: runL c l, col⟩ :: ·)
  termination_by l => l.length
  decreasing_by
    · simp
    · simp; omega

theorem toks_nil (col : Nat) : toks col [] = some [] := by rw [toks]
theorem toks_space (col : Nat) (l : List UInt8) : toks col (32 :: l) = toks (col + 1) l := by rw [toks, if_pos rfl]

/-- A word stands there: it ends where the run of its first byte does. -/
structure Starts (w r : List UInt8) : Prop where
  ne : w ≠ []
  sp : w.head? ≠ some 32
  run : ∀ c t, w = c :: t → runL c (t ++ r) = t

theorem toks_word (col : Nat) (w r : List UInt8) (h : Starts w r) :
    toks col (w ++ r) = if kindL w = 0 then none else (toks (col + w.length) r).map (⟨kindL w, w, col⟩ :: ·) := by
  cases w with
  | nil => exact absurd rfl h.ne
  | cons c t =>
    have hr := h.run c t rfl
    have hc : c ≠ 32 := by simpa using h.sp
    rw [List.cons_append, toks, if_neg hc, hr, List.drop_left, List.length_cons, Nat.add_comm 1]

theorem takeWhile_all {p : UInt8 → Bool} {t r : List UInt8} (h1 : t.all p = true) (h2 : ∀ c, r.head? = some c → p c = false) : (t ++ r).takeWhile p = t := by
  induction t with
  | nil =>
    cases r with
    | nil => rfl
    | cons c r => rw [List.nil_append, List.takeWhile_cons, h2 c rfl]; rfl
  | cons d t ih =>
    rw [List.all_cons, Bool.and_eq_true] at h1
    rw [List.cons_append, List.takeWhile_cons, h1.1]
    simp [ih h1.2]

theorem starts_let {c : UInt8} {t r : List UInt8} (hc : isLet c = true) (h1 : t.all isLet = true) (h2 : ∀ x, r.head? = some x → isLet x = false) : Starts (c :: t) r where
  ne := by simp
  sp := by
    intro h
    simp only [List.head?_cons, Option.some.injEq] at h
    rw [h] at hc; exact absurd hc (by decide)
  run := by
    intro c' t' e
    injection e with e1 e2
    subst e1 e2
    unfold runL
    rw [if_pos hc]
    exact takeWhile_all h1 h2
theorem starts_dig {c : UInt8} {t r : List UInt8} (hc : isDig c = true) (h1 : t.all isDig = true) (h2 : ∀ x, r.head? = some x → isDig x = false) : Starts (c :: t) r where
  ne := by simp
  sp := by
    intro h
    simp only [List.head?_cons, Option.some.injEq] at h
    rw [h] at hc; exact absurd hc (by decide)
  run := by
    intro c' t' e
    injection e with e1 e2
    subst e1 e2
    unfold runL
    have : ¬ isLet c = true := by
      intro h; rw [let_dig h] at hc; cases hc
    rw [if_neg this, if_pos hc]
    exact takeWhile_all h1 h2
theorem starts_one {c : UInt8} {r : List UInt8} (h0 : c ≠ 32) (h1 : isLet c = false) (h2 : isDig c = false) : Starts [c] r where
  ne := by simp
  sp := by simpa using h0
  run := by
    intro c' t' e
    injection e with e1 e2
    subst e1 e2
    unfold runL
    rw [h1, h2]
    rfl

/-- A word of a kind begins where it stands, if what follows does not go on with it. -/
theorem starts_kind {w r : List UInt8} (hk : kindL w ≠ 0) (h : ∀ x, r.head? = some x → x = 32) : Starts w r := by
  unfold kindL at hk
  cases w with
  | nil => exact absurd rfl hk
  | cons c t =>
    by_cases h1 : wordL (c :: t) = true
    · simp only [wordL, Bool.and_eq_true, decide_eq_true_eq, List.all_cons] at h1
      exact starts_let h1.2.2.1 h1.2.2.2 (fun x hx => by rw [h x hx]; decide)
    · rw [if_neg h1] at hk
      by_cases h2 : decL (c :: t) = true
      · simp only [decL, Bool.and_eq_true, List.all_cons] at h2
        exact starts_dig h2.1.1 h2.1.2 (fun x hx => by rw [h x hx]; decide)
      · rw [if_neg h2] at hk
        by_cases h3 : markL (c :: t) = true
        · cases t with
          | nil =>
            have h4 := mark_toNat (c := c) h3
            exact starts_one h4.2.2.1 h4.1 h4.2.1
          | cons d t => simp [markL] at h3
        · rw [if_neg h3] at hk; exact absurd rfl hk

theorem toks_one (col : Nat) (w : List UInt8) (hk : kindL w ≠ 0) : toks col w = some [⟨kindL w, w, col⟩] := by
  have := toks_word col w [] (starts_kind hk (by simp))
  rw [List.append_nil, if_neg hk, toks_nil] at this
  exact this

theorem toks_shift (d : Nat) (l : List UInt8) : ∀ col, toks (col + d) l = (toks col l).map (·.map fun t => { t with col := t.col + d }) := by
  induction hn : l.length using Nat.strongRecOn generalizing l with
  | ind n ih =>
    intro col
    cases l with
    | nil => rw [toks_nil, toks_nil]; rfl
    | cons c l =>
      rw [toks, toks]
      by_cases h : c = 32
      · rw [if_pos h, if_pos h]
        have := ih l.length (by rw [← hn]; simp) l rfl (col + 1)
        rw [← this]
        congr 1
        omega
      · rw [if_neg h, if_neg h]
        by_cases hk : kindL (c :: runL c l) = 0
        · rw [if_pos hk, if_pos hk]; rfl
        · rw [if_neg hk, if_neg hk]
          have := ih (l.drop (runL c l).length).length (by rw [← hn]; simp; omega) _ rfl (col + (1 + (runL c l).length))
          rw [show col + d + (1 + (runL c l).length) = col + (1 + (runL c l).length) + d by omega, this]
          cases toks (col + (1 + (runL c l).length)) (l.drop (runL c l).length) <;> rfl

theorem takeWhile_app {p : UInt8 → Bool} (a b : List UInt8) (h : ∀ x, b.head? = some x → p x = false) : (a ++ b).takeWhile p = a.takeWhile p := by
  induction a with
  | nil =>
    cases b with
    | nil => rfl
    | cons c r => rw [List.nil_append, List.takeWhile_cons, h c rfl]; rfl
  | cons d a ih =>
    rw [List.cons_append, List.takeWhile_cons, List.takeWhile_cons, ih]
theorem runL_app (c : UInt8) (a b : List UInt8) : runL c (a ++ 32 :: b) = runL c a := by
  unfold runL
  split
  · exact takeWhile_app a _ (fun x hx => by simp at hx; rw [← hx]; decide)
  · split
    · exact takeWhile_app a _ (fun x hx => by simp at hx; rw [← hx]; decide)
    · rfl

/-- The words of two lines with a space between are those of both. -/
theorem toks_cat (b : List UInt8) (a : List UInt8) : ∀ col, toks col (a ++ 32 :: b) = (toks col a).bind fun x => (toks (col + a.length + 1) b).map (x ++ ·) := by
  induction hn : a.length using Nat.strongRecOn generalizing a with
  | ind n ih =>
    intro col
    cases a with
    | nil =>
      rw [List.nil_append, toks_space, toks_nil]
      subst hn
      show toks (col + 1) b = (toks (col + 0 + 1) b).map (fun y => [] ++ y)
      rw [Nat.add_zero]
      cases toks (col + 1) b <;> rfl
    | cons c a =>
      rw [List.cons_append, toks, toks]
      by_cases h : c = 32
      · rw [if_pos h, if_pos h, ih a.length (by rw [← hn]; simp) a rfl, ← hn, List.length_cons]
        rw [show col + 1 + a.length + 1 = col + (a.length + 1) + 1 by omega]
      · rw [if_neg h, if_neg h, runL_app]
        by_cases hk : kindL (c :: runL c a) = 0
        · rw [if_pos hk, if_pos hk]; rfl
        · have hl := runL_length c a
          rw [if_neg hk, if_neg hk, List.drop_append_of_le_length hl]
          have := ih (a.drop (runL c a).length).length (by rw [← hn]; simp; omega) _ rfl (col + (1 + (runL c a).length))
          rw [this, show col + (1 + (runL c a).length) + (a.drop (runL c a).length).length + 1 = col + n + 1 by rw [← hn]; simp; omega]
          cases toks (col + (1 + (runL c a).length)) (a.drop (runL c a).length) <;> cases toks (col + n + 1) b <;> rfl

theorem toks_spaces (n : Nat) : ∀ col, toks col (List.replicate n 32) = some [] := by
  induction n with
  | zero => intro col; exact toks_nil col
  | succ n ih => intro col; rw [List.replicate_succ, toks_space]; exact ih _
theorem toks_pad (n : Nat) (l : List UInt8) : ∀ col, toks col (List.replicate n 32 ++ l) = toks (col + n) l := by
  induction n with
  | zero => intro col; rfl
  | succ n ih => intro col; rw [List.replicate_succ, List.cons_append, toks_space, ih]; congr 1; omega
theorem toks_behind (n : Nat) (l : List UInt8) (col : Nat) : toks col (l ++ List.replicate n 32) = toks col l := by
  cases n with
  | zero => rw [List.replicate_zero, List.append_nil]
  | succ n =>
    rw [List.replicate_succ, toks_cat, toks_spaces]
    cases toks col l with
    | none => rfl
    | some x => show some (x ++ []) = some x; rw [List.append_nil]

/-- What each word of a line is: where it stands, what is ahead of it, and what follows. -/
theorem toks_step (l : List UInt8) : ∀ col ts, toks col l = some ts → (ts = [] ∧ l = List.replicate l.length 32) ∨
    ∃ (m : Nat) (w r : List UInt8) (ts' : List Tk), l = List.replicate m 32 ++ (w ++ r) ∧ ts = ⟨kindL w, w, col + m⟩ :: ts' ∧ toks (col + m + w.length) r = some ts' ∧ kindL w ≠ 0 ∧ Starts w r := by
  induction hn : l.length using Nat.strongRecOn generalizing l with
  | ind n ih =>
    intro col ts h
    cases l with
    | nil =>
      rw [toks_nil] at h
      exact .inl ⟨by injection h with h; exact h.symm, by subst hn; rfl⟩
    | cons c l =>
      rw [toks] at h
      by_cases hc : c = 32
      · rw [if_pos hc] at h
        rcases ih l.length (by rw [← hn]; simp) l rfl (col + 1) ts h with ⟨h1, h2⟩ | ⟨m, w, r, ts', h1, h2, h3, h4, h5⟩
        · refine .inl ⟨h1, ?_⟩
          rw [← hn, List.length_cons, List.replicate_succ, ← h2, hc]
        · refine .inr ⟨m + 1, w, r, ts', by rw [List.replicate_succ, List.cons_append, ← h1, hc], ?_, ?_, h4, h5⟩
          · rw [h2]; congr 2; omega
          · rw [← h3]; congr 1; omega
      · rw [if_neg hc] at h
        by_cases hk : kindL (c :: runL c l) = 0
        · rw [if_pos hk] at h; cases h
        · rw [if_neg hk] at h
          have hs := runL_split c l
          have hsplit : c :: l = (c :: runL c l) ++ l.drop (runL c l).length := by rw [List.cons_append, ← hs]
          cases ht : toks (col + (1 + (runL c l).length)) (l.drop (runL c l).length) with
          | none => rw [ht] at h; cases h
          | some ts' =>
            rw [ht] at h
            have h2 : ts = ⟨kindL (c :: runL c l), c :: runL c l, col⟩ :: ts' := by
              have h := Option.some.inj h
              exact h.symm
            refine .inr ⟨0, c :: runL c l, l.drop (runL c l).length, ts', hsplit, h2, ?_, hk, ?_⟩
            · rw [← ht, List.length_cons]; congr 1; omega
            · refine ⟨by simp, by simpa using hc, fun c' t' e => ?_⟩
              injection e with e1 e2
              subst e1
              rw [← e2, ← hs]

end Go.Proofs.YtaclndbilpaboaaGreatDoor
