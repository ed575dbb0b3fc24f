/-
  TokCut, SpecTok, SpecNum, SpecLine, ImplTok, SpecEx: these texts one behind the other, as a claim holds at most 60 files.
-/
import Derived.Test.YtabignplhkbcpaaGreatDoorGA
import Derived.Test.YtabignplhkbcpaaGreatDoorGB
import Derived.Lib.OthersKept
import Derived.Laws.RangeAny
namespace Go.Proofs.YtabignplhkbcpaaGreatDoor

structure Tk where
  kind : Nat
  s : List UInt8
  col : Nat

/-- The bytes behind the first that belong to its word. -/
def runL (c : UInt8) (l : List UInt8) : List UInt8 := if isLet c then l.takeWhile isLet else if isDig c then l.takeWhile isDig else []

theorem runL_length (c : UInt8) (l : List UInt8) : (runL c l).length ≤ l.length := by
  unfold runL
  split
  · exact (List.takeWhile_prefix _).length_le
  · split
    · exact (List.takeWhile_prefix _).length_le
    · simp

theorem runL_split (c : UInt8) (l : List UInt8) : l = runL c l ++ l.drop (runL c l).length := by
  have : runL c l <+: l := by
    unfold runL
    split
    · exact List.takeWhile_prefix _
    · split
      · exact List.takeWhile_prefix _
      · exact List.nil_prefix
  obtain ⟨q, hq⟩ := this
  have h := congrArg (List.drop (runL c l).length) hq
  rw [List.drop_left] at h
  rw [← h]
  exact hq.symm

/-- The words of what is left of a line, from this byte on. -/
def toks (col : Nat) : List UInt8 → Option (List Tk)
  | [] => some []
  | c :: l =>
    if c = 32 then toks (col + 1) l
    else if kindL (c :: runL c l) = 0 then none
    else (toks (col + (1 + (runL c l).length)) (l.drop (runL c l).length)).map (⟨kindL (c :: runL c l), c :: runL c l, col⟩ :: ·)
  termination_by l => l.length
  decreasing_by
    · simp
    · simp; omega

theorem toks_nil (col : Nat) : toks col [] = some [] := by rw [toks]
theorem toks_space (col : Nat) (l : List UInt8) : toks col (32 :: l) = toks (col + 1) l := by rw [toks, if_pos rfl]

/-- A word stands there: it ends where the run of its first byte does. -/
structure Starts (w r : List UInt8) : Prop where
  ne : w ≠ []
  sp : w.head? ≠ some 32
  run : ∀ c t, w = c :: t → runL c (t ++ r) = t

theorem toks_word (col : Nat) (w r : List UInt8) (h : Starts w r) :
    toks col (w ++ r) = if kindL w = 0 then none else (toks (col + w.length) r).map (⟨kindL w, w, col⟩ :: ·) := by
  cases w with
  | nil => exact absurd rfl h.ne
  | cons c t =>
    have hr := h.run c t rfl
    have hc : c ≠ 32 := by simpa using h.sp
    rw [List.cons_append, toks, if_neg hc, hr, List.drop_left, List.length_cons, Nat.add_comm 1]

theorem takeWhile_all {p : UInt8 → Bool} {t r : List UInt8} (h1 : t.all p = true) (h2 : ∀ c, r.head? = some c → p c = false) : (t ++ r).takeWhile p = t := by
  induction t with
  | nil =>
    cases r with
    | nil => rfl
    | cons c r => rw [List.nil_append, List.takeWhile_cons, h2 c rfl]; rfl
  | cons d t ih =>
    rw [List.all_cons, Bool.and_eq_true] at h1
    rw [List.cons_append, List.takeWhile_cons, h1.1]
    simp [ih h1.2]

theorem starts_let {c : UInt8} {t r : List UInt8} (hc : isLet c = true) (h1 : t.all isLet = true) (h2 : ∀ x, r.head? = some x → isLet x = false) : Starts (c :: t) r where
  ne := by simp
  sp := by
    intro h
    simp only [List.head?_cons, Option.some.injEq] at h
    rw [h] at hc; exact absurd hc (by decide)
  run := by
    intro c' t' e
    injection e with e1 e2
    subst e1 e2
    unfold runL
    rw [if_pos hc]
    exact takeWhile_all h1 h2
theorem starts_dig {c : UInt8} {t r : List UInt8} (hc : isDig c = true) (h1 : t.all isDig = true) (h2 : ∀ x, r.head? = some x → isDig x = false) : Starts (c :: t) r where
  ne := by simp
  sp := by
    intro h
    simp only [List.head?_cons, Option.some.injEq] at h
    rw [h] at hc; exact absurd hc (by decide)
  run := by
    intro c' t' e
    injection e with e1 e2
    subst e1 e2
    unfold runL
    have : ¬ isLet c = true := by
      intro h; rw [let_dig h] at hc; cases hc
    rw [if_neg this, if_pos hc]
    exact takeWhile_all h1 h2
theorem starts_one {c : UInt8} {r : List UInt8} (h0 : c ≠ 32) (h1 : isLet c = false) (h2 : isDig c = false) : Starts [c] r where
  ne := by simp
  sp := by simpa using h0
  run := by
    intro c' t' e
    injection e with e1 e2
    subst e1 e2
    unfold runL
    rw [h1, h2]
    rfl

/-- A word of a kind begins where it stands, if what follows does not go on with it. -/
theorem starts_kind {w r : List UInt8} (hk : kindL w ≠ 0) (h : ∀ x, r.head? = some x → x = 32) : Starts w r := by
  unfold kindL at hk
  cases w with
  | nil => exact absurd rfl hk
  | cons c t =>
    by_cases h1 : wordL (c :: t) = true
    · simp only [wordL, Bool.and_eq_true, decide_eq_true_eq, List.all_cons] at h1
      exact starts_let h1.2.2.1 h1.2.2.2 (fun x hx => by rw [h x hx]; decide)
    · rw [if_neg h1] at hk
      by_cases h2 : decL (c :: t) = true
      · simp only [decL, Bool.and_eq_true, List.all_cons] at h2
        exact starts_dig h2.1.1 h2.1.2 (fun x hx => by rw [h x hx]; decide)
      · rw [if_neg h2] at hk
        by_cases h3 : markL (c :: t) = true
        · cases t with
          | nil =>
            have h4 := mark_toNat (c := c) h3
            exact starts_one h4.2.2.1 h4.1 h4.2.1
          | cons d t => simp [markL] at h3
        · rw [if_neg h3] at hk; exact absurd rfl hk

theorem toks_one (col : Nat) (w : List UInt8) (hk : kindL w ≠ 0) : toks col w = some [⟨kindL w, w, col⟩] := by
  have := toks_word col w [] (starts_kind hk (by simp))
  rw [List.append_nil, if_neg hk, toks_nil] at this
  exact this

theorem toks_shift (d : Nat) (l : List UInt8) : ∀ col, toks (col + d) l = (toks col l).map (·.map fun t => { t with col := t.col + d }) := by
  induction hn : l.length using Nat.strongRecOn generalizing l with
  | ind n ih =>
    intro col
    cases l with
    | nil => rw [toks_nil, toks_nil]; rfl
    | cons c l =>
      rw [toks, toks]
      by_cases h : c = 32
      · rw [if_pos h, if_pos h]
        have := ih l.length (by rw [← hn]; simp) l rfl (col + 1)
        rw [← this]
        congr 1
        omega
      · rw [if_neg h, if_neg h]
        by_cases hk : kindL (c :: runL c l) = 0
        · rw [if_pos hk, if_pos hk]; rfl
        · rw [if_neg hk, if_neg hk]
          have := ih (l.drop (runL c l).length).length (by rw [← hn]; simp; omega) _ rfl (col + (1 + (runL c l).length))
          rw [show col + d + (1 + (runL c l).length) = col + (1 + (runL c l).length) + d by omega, this]
          cases toks (col + (1 + (runL c l).length)) (l.drop (runL c l).length) <;> rfl

theorem takeWhile_app {p : UInt8 → Bool} (a b : List UInt8) (h : ∀ x, b.head? = some x → p x = false) : (a ++ b).takeWhile p = a.takeWhile p := by
  induction a with
  | nil =>
    cases b with
    | nil => rfl
    | cons c r => rw [List.nil_append, List.takeWhile_cons, h c rfl]; rfl
  | cons d a ih =>
    rw [List.cons_append, List.takeWhile_cons, List.takeWhile_cons, ih]
theorem runL_app (c : UInt8) (a b : List UInt8) : runL c (a ++ 32 :: b) = runL c a := by
  unfold runL
  split
  · exact takeWhile_app a _ (fun x hx => by simp at hx; rw [← hx]; decide)
  · split
    · exact takeWhile_app a _ (fun x hx => by simp at hx; rw [← hx]; decide)
    · rfl

/-- The words of two lines with a space between are those of both. -/
theorem toks_cat (b : List UInt8) (a : List UInt8) : ∀ col, toks col (a ++ 32 :: b) = (toks col a).bind fun x => (toks (col + a.length + 1) b).map (x ++ ·) := by
  induction hn : a.length using Nat.strongRecOn generalizing a with
  | ind n ih =>
    intro col
    cases a with
    | nil =>
      rw [List.nil_append, toks_space, toks_nil]
      subst hn
      show toks (col + 1) b = (toks (col + 0 + 1) b).map (fun y => [] ++ y)
      rw [Nat.add_zero]
      cases toks (col + 1) b <;> rfl
    | cons c a =>
      rw [List.cons_append, toks, toks]
      by_cases h : c = 32
      · rw [if_pos h, if_pos h, ih a.length (by rw [← hn]; simp) a rfl, ← hn, List.length_cons]
        rw [show col + 1 + a.length + 1 = col + (a.length + 1) + 1 by omega]
      · rw [if_neg h, if_neg h, runL_app]
        by_cases hk : kindL (c :: runL c a) = 0
        · rw [if_pos hk, if_pos hk]; rfl
        · have hl := runL_length c a
          rw [if_neg hk, if_neg hk, List.drop_append_of_le_length hl]
          have := ih (a.drop (runL c a).length).length (by rw [← hn]; simp; omega) _ rfl (col + (1 + (runL c a).length))
          rw [this, show col + (1 + (runL c a).length) + (a.drop (runL c a).length).length + 1 = col + n + 1 by rw [← hn]; simp; omega]
          cases toks (col + (1 + (runL c a).length)) (a.drop (runL c a).length) <;> cases toks (col + n + 1) b <;> rfl

theorem toks_spaces (n : Nat) : ∀ col, toks col (List.replicate n 32) = some [] := by
  induction n with
  | zero => intro col; exact toks_nil col
  | succ n ih => intro col; rw [List.replicate_succ, toks_space]; exact ih _
theorem toks_pad (n : Nat) (l : List UInt8) : ∀ col, toks col (List.replicate n 32 ++ l) = toks (col + n) l := by
  induction n with
  | zero => intro col; rfl
  | succ n ih => intro col; rw [List.replicate_succ, List.cons_append, toks_space, ih]; congr 1; omega
theorem toks_behind (n : Nat) (l : List UInt8) (col : Nat) : toks col (l ++ List.replicate n 32) = toks col l := by
  cases n with
  | zero => rw [List.replicate_zero, List.append_nil]
  | succ n =>
    rw [List.replicate_succ, toks_cat, toks_spaces]
    cases toks col l with
    | none => rfl
    | some x => show some (x ++ []) = some x; rw [List.append_nil]

/-- What each word of a line is: where it stands, what is ahead of it, and what follows. -/
theorem toks_step (l : List UInt8) : ∀ col ts, toks col l = some ts → (ts = [] ∧ l = List.replicate l.length 32) ∨
    ∃ (m : Nat) (w r : List UInt8) (ts' : List Tk), l = List.replicate m 32 ++ (w ++ r) ∧ ts = ⟨kindL w, w, col + m⟩ :: ts' ∧ toks (col + m + w.length) r = some ts' ∧ kindL w ≠ 0 ∧ Starts w r := by
  induction hn : l.length using Nat.strongRecOn generalizing l with
  | ind n ih =>
    intro col ts h
    cases l with
    | nil =>
      rw [toks_nil] at h
      exact .inl ⟨by injection h with h; exact h.symm, by subst hn; rfl⟩
    | cons c l =>
      rw [toks] at h
      by_cases hc : c = 32
      · rw [if_pos hc] at h
        rcases ih l.length (by rw [← hn]; simp) l rfl (col + 1) ts h with ⟨h1, h2⟩ | ⟨m, w, r, ts', h1, h2, h3, h4, h5⟩
        · refine .inl ⟨h1, ?_⟩
          rw [← hn, List.length_cons, List.replicate_succ, ← h2, hc]
        · refine .inr ⟨m + 1, w, r, ts', by rw [List.replicate_succ, List.cons_append, ← h1, hc], ?_, ?_, h4, h5⟩
          · rw [h2]; congr 2; omega
          · rw [← h3]; congr 1; omega
      · rw [if_neg hc] at h
        by_cases hk : kindL (c :: runL c l) = 0
        · rw [if_pos hk] at h; cases h
        · rw [if_neg hk] at h
          have hs := runL_split c l
          have hsplit : c :: l = (c :: runL c l) ++ l.drop (runL c l).length := by rw [List.cons_append, ← hs]
          cases ht : toks (col + (1 + (runL c l).length)) (l.drop (runL c l).length) with
          | none => rw [ht] at h; cases h
          | some ts' =>
            rw [ht] at h
            have h2 : ts = ⟨kindL (c :: runL c l), c :: runL c l, col⟩ :: ts' := by
              have h := Option.some.inj h
              exact h.symm
            refine .inr ⟨0, c :: runL c l, l.drop (runL c l).length, ts', hsplit, h2, ?_, hk, ?_⟩
            · rw [← ht, List.length_cons]; congr 1; omega
            · refine ⟨by simp, by simpa using hc, fun c' t' e => ?_⟩
              injection e with e1 e2
              subst e1
              rw [← e2, ← hs]

end Go.Proofs.YtabignplhkbcpaaGreatDoor

namespace Go.Proofs.YtabignplhkbcpaaGreatDoor
open Go.RowKit

/-- The first place of a byte, or -1. -/
def findB (s : ByteArray) (c : UInt8) : Int := match s.data.toList.findIdx? (· == c) with | some k => (k : Int) | none => -1
theorem findB_none {s : ByteArray} {c : UInt8} (h : ∀ k (hk : k < s.size), s[k] ≠ c) : findB s c = -1 := by
  have : s.data.toList.findIdx? (· == c) = none := by
    rw [List.findIdx?_eq_none_iff]
    intro x hx
    obtain ⟨k, hk, rfl⟩ := List.getElem_of_mem hx
    have := h k (by rw [Lib.size_eq]; exact hk)
    exact beq_eq_false_iff_ne.2 this
  unfold findB; rw [this]
theorem findB_some {s : ByteArray} {c : UInt8} {k : Nat} (hk : k < s.size) (he : s[k] = c) (h : ∀ j (hj : j < k), s[j]'(by omega) ≠ c) : findB s c = k := by
  have : s.data.toList.findIdx? (· == c) = some k := by
    rw [List.findIdx?_eq_some_iff_getElem]
    refine ⟨by rw [← Lib.size_eq]; exact hk, ?_, ?_⟩
    · exact beq_iff_eq.2 he
    · intro j hj
      have := h j hj
      rw [beq_iff_eq]
      exact this
  unfold findB; rw [this]

theorem L_get (s : ByteArray) (k : Nat) (h : k < s.size) : (L s)[k]'(by rw [L_length]; exact h) = s[k] := rfl
theorem L_take (s : ByteArray) (k : Nat) (h : k < s.size) : (L s).take (k + 1) = (L s).take k ++ [s[k]] := by
  rw [List.take_succ_eq_append_getElem (by rw [L_length]; exact h), L_get s k h]
theorem L_take_all (s : ByteArray) : (L s).take s.size = L s := List.take_of_length_le (by rw [L_length]; exact Nat.le_refl _)
theorem all_take_bad {p : UInt8 → Bool} (s : ByteArray) (k : Nat) (h : k < s.size) (hp : p s[k] = false) : (L s).all p = false := by
  cases ha : (L s).all p
  · rfl
  · have := List.all_eq_true.1 ha ((L s)[k]'(by rw [L_length]; exact h)) (List.getElem_mem _)
    rw [L_get s k h, hp] at this
    cases this
theorem L_ne {s : ByteArray} (h : 0 < s.size) : L s ≠ [] := by
  intro e; have := L_length s; rw [e] at this; simp at this; omega
theorem L_cons {s : ByteArray} (h : 0 < s.size) : L s = s[0] :: (L s).drop 1 := by
  have := L_drop s 0 h
  simpa using this

def marksS : ByteArray := ⟨#[43, 45, 42, 60, 40, 41, 58, 61]⟩
theorem marks_find (c : UInt8) : decide ((0 : Int) ≤ findB marksS c) = isMark c := by
  unfold isMark
  rw [show marks = L marksS from rfl, Bool.eq_iff_iff]
  simp only [decide_eq_true_eq, List.contains_iff_mem]
  constructor
  · intro h
    by_cases hm : c ∈ L marksS
    · exact hm
    · rw [findB_none (fun k hk e => hm (by rw [← e]; exact List.getElem_mem (l := L marksS) (by rw [L_length]; exact hk)))] at h
      omega
  · intro h
    unfold findB
    cases hf : marksS.data.toList.findIdx? (· == c) with
    | none =>
      rw [List.findIdx?_eq_none_iff] at hf
      have := hf c h
      simp at this
    | some k => simp

set_option maxHeartbeats 1000000 in
theorem l3Word_any (s : ByteArray) (w : World) (hs : s.size ≤ 2 ^ 40) :
    Calls Tryz.prog 59 #[.string s] w fun e w' => e = .returned (.bool (wordL (L s))) ∧ w = w' := by
  go_enter Tryz.func59, Tryz.ntmps59
  go_wp2
  go_loop [3] (fun i => ∃ k : Nat, k ≤ s.size ∧ i = .int .i64 k ∧ Hid (((L s).take k).all isLet = true)) (fun i => s.size - (intOf i).toNat)
  case atStart => exact ⟨0, Nat.zero_le _, rfl, rfl⟩
  case round =>
    obtain ⟨k, hk, rfl, HP⟩ := hrel
    by_cases hlt : k < s.size
    · have hx : (k : Int) < (s.size : Int) := by omega
      cases hl : isLet s[k]
      · have HF := Lib.hid (show wordL (L s) = false by unfold wordL; rw [all_take_bad s k hlt hl, Bool.and_false, Bool.and_false])
        by_cases h97 : s[k].toNat < 97
        · have q1 : decide ((s[k].toNat : Int) < 97) = true := by simp; omega
          clear hl h97
          go_wp2
          go_ret
          exact ⟨ret_bool HF.out.symm, rfl⟩
        · have q1 : decide ((s[k].toNat : Int) < 97) = false := by simp; omega
          have q2 : decide ((122 : Int) < (s[k].toNat : Int)) = true := by
            rw [decide_eq_true_eq]
            have : ¬ (97 ≤ s[k].toNat ∧ s[k].toNat ≤ 122) := fun h => by rw [(isLet_iff _).2 h] at hl; cases hl
            omega
          clear hl h97
          go_wp2
          go_ret
          exact ⟨ret_bool HF.out.symm, rfl⟩
      · have hb := (isLet_iff _).1 hl
        have q1 : decide ((s[k].toNat : Int) < 97) = false := by simp; omega
        have q2 : decide ((122 : Int) < (s[k].toNat : Int)) = false := by simp; omega
        have HP2 := Lib.hid (show ((L s).take (k + 1)).all isLet = true by rw [L_take s k hlt, List.all_append, HP.out, List.all_cons, hl]; rfl)
        clear hl hb
        go_wp2
        go_round
        case rel => exact ⟨k + 1, by omega, by go_num, HP2⟩
        case measure => simp [intOf]; omega
    · obtain rfl : s.size = k := by omega
      have HA := Lib.hid (show (L s).all isLet = true by have := HP.out; rwa [L_take_all] at this)
      have HL := Lib.hid (L_length s)
      by_cases h1 : 1 ≤ s.size
      · have q1 : decide ((1 : Int) ≤ (s.size : Int)) = true := by simp; omega
        have HF := Lib.hid (show wordL (L s) = decide ((s.size : Int) ≤ 8) by
          unfold wordL; rw [HA.out, HL.out, Bool.and_true, decide_eq_true h1, Bool.true_and]; simp; omega)
        clear h1
        go_wp2
        go_ret
        exact ⟨ret_bool (by rw [HF.out]), rfl⟩
      · have q1 : decide ((1 : Int) ≤ (s.size : Int)) = false := by simp; omega
        have HF := Lib.hid (show wordL (L s) = false by
          unfold wordL; rw [HL.out, decide_eq_false h1, Bool.false_and])
        clear h1
        go_wp2
        go_ret
        exact ⟨ret_bool HF.out.symm, rfl⟩

/-- What l12Num reads: a number of at most 17 digits, as it is written. -/
def numV (l : List UInt8) : Option Int :=
  if l.head? = some 45 then (if l.length ≤ 18 ∧ (l.drop 1).all isDig = true ∧ l.drop 1 ≠ [] ∧ (l.drop 1).head? ≠ some 48 then some (-(decV 0 (l.drop 1) : Int)) else none)
  else if l.length ≤ 17 ∧ l.all isDig = true ∧ noLead l = true then some (decV 0 l : Int) else none
theorem numV_dec (l : List UInt8) : ((numV l).isSome && (decide (0 ≤ (numV l).getD 0) && decide ((numV l).getD 0 ≤ 1000000))) = decL l := by
  unfold numV
  by_cases h : l.head? = some 45
  · rw [if_pos h]
    have hf : decL l = false := by
      cases l with
      | nil => simp at h
      | cons c l =>
        simp only [List.head?_cons, Option.some.injEq] at h
        subst h
        unfold decL
        rw [List.all_cons]
        rfl
    rw [hf]
    split
    · rename_i hh
      obtain ⟨_, h2, h3, h4⟩ := hh
      cases hl : l.drop 1 with
      | nil => exact absurd hl h3
      | cons c r =>
        rw [hl] at h2 h4
        have hp : 1 ≤ decV 0 (c :: r) := Nat.le_trans (Nat.pow_pos (by omega)) (decV_head (l := r) (List.all_eq_true.1 h2 c (by simp)) (by simpa using h4))
        have h5 : decide ((0 : Int) ≤ (some (-(decV 0 (c :: r) : Int))).getD 0) = false := by
          rw [decide_eq_false_iff_not]
          show ¬ (0 : Int) ≤ -(decV 0 (c :: r) : Int)
          omega
        rw [h5]
        simp
    · rfl
  · rw [if_neg h]
    by_cases hg : l.all isDig = true ∧ noLead l = true
    · by_cases h17 : l.length ≤ 17
      · rw [if_pos ⟨h17, hg⟩]
        unfold decL
        rw [hg.1, hg.2]
        simp
        omega
      · rw [if_neg (fun hh => h17 hh.1)]
        cases hd : decL l
        · rfl
        · have := decL_length hd; omega
    · rw [if_neg (fun hh => hg hh.2)]
      cases hd : decL l
      · rfl
      · simp only [decL, Bool.and_eq_true] at hd
        exact absurd ⟨hd.1, hd.2.1⟩ hg
end Go.Proofs.YtabignplhkbcpaaGreatDoor

namespace Go.Proofs.YtabignplhkbcpaaGreatDoor
open Go.RowKit

theorem ret_num_no {x : Option Int} (h : x = none) : Ending.returned (.tuple #[.int .i64 0, .bool false]) = .returned (.tuple #[.int .i64 (x.getD 0), .bool x.isSome]) := by subst h; rfl
theorem ret_num_yes {x : Option Int} {n : Int} (h : x = some n) : Ending.returned (.tuple #[.int .i64 n, .bool true]) = .returned (.tuple #[.int .i64 (x.getD 0), .bool x.isSome]) := by subst h; rfl
theorem u8_ne {c : UInt8} {n : Nat} (h : c ≠ UInt8.ofNat n) (hn : n < 256) : ((c.toNat : Int) == (n : Int)) = false := by
  simp only [beq_eq_false_iff_ne, ne_eq]
  intro e
  exact h (UInt8.toNat_inj.1 (by rw [UInt8.toNat_ofNat']; omega))
theorem numV_plain {l : List UInt8} (h : l.head? ≠ some 45) : numV l = if l.length ≤ 17 ∧ l.all isDig = true ∧ noLead l = true then some (decV 0 l : Int) else none := by unfold numV; rw [if_neg h]
theorem numV_neg {l : List UInt8} (h : l.head? = some 45) : numV l = if l.length ≤ 18 ∧ (l.drop 1).all isDig = true ∧ l.drop 1 ≠ [] ∧ (l.drop 1).head? ≠ some 48 then some (-(decV 0 (l.drop 1) : Int)) else none := by unfold numV; rw [if_pos h]
theorem L_tail (s : ByteArray) : L (s.extract 1 s.size) = (L s).drop 1 := by rw [L_extract, L_take_all]
theorem size_tail (s : ByteArray) : (s.extract 1 s.size).size = s.size - 1 := by rw [← L_length, L_tail, List.length_drop, L_length]

end Go.Proofs.YtabignplhkbcpaaGreatDoor

namespace Go.Proofs.YtabignplhkbcpaaGreatDoor
open Go.RowKit

theorem okL_one (l : List UInt8) : okL 1 l = wordL l := rfl
theorem okL_two (l : List UInt8) : okL 2 l = decL l := rfl
theorem okL_three (l : List UInt8) : okL 3 l = markL l := rfl
theorem okL_else {k : Int} (h1 : k ≠ 1) (h2 : k ≠ 2) (h3 : k ≠ 3) (l : List UInt8) : okL k l = false := by
  unfold okL; rw [if_neg h1, if_neg h2, if_neg h3]
theorem markL_one {s : ByteArray} (h : s.size = 1) : markL (L s) = isMark (s[0]'(by omega)) := by
  have h1 := L_cons (s := s) (by omega)
  have h2 : (L s).drop 1 = [] := List.eq_nil_of_length_eq_zero (by rw [List.length_drop, L_length]; omega)
  rw [h1, h2]
  rfl
theorem markL_no {s : ByteArray} (h : s.size ≠ 1) : markL (L s) = false := by
  have hl := L_length s
  match hL : L s with
  | [] => rfl
  | [c] => rw [hL] at hl; simp at hl; omega
  | c :: d :: r => rfl

theorem kind_at {l : List UInt8} {k : Nat} (h1 : 1 ≤ k) (h3 : k ≤ 3) (hp : ∀ j : Nat, 1 ≤ j → j < k → okL (j : Int) l = false) (h : okL (k : Int) l = true) : kindL l = k := by
  have h4 : k = 1 ∨ k = 2 ∨ k = 3 := by omega
  unfold kindL
  rcases h4 with rfl | rfl | rfl
  · rw [if_pos (show wordL l = true from h)]
  · have a1 : wordL l = false := hp 1 (by omega) (by omega)
    rw [a1, if_pos (show decL l = true from h)]
    rfl
  · have a1 : wordL l = false := hp 1 (by omega) (by omega)
    have a2 : decL l = false := hp 2 (by omega) (by omega)
    rw [a1, a2, if_pos (show markL l = true from h)]
    rfl
theorem kind_none {l : List UInt8} (hp : ∀ j : Nat, 1 ≤ j → j < 4 → okL (j : Int) l = false) : kindL l = 0 := by
  have a1 : wordL l = false := hp 1 (by omega) (by omega)
  have a2 : decL l = false := hp 2 (by omega) (by omega)
  have a3 : markL l = false := hp 3 (by omega) (by omega)
  unfold kindL
  rw [a1, a2, a3]
  rfl

/-- The class of a byte, as the model tells it. -/
def clsN (c : UInt8) : Nat := if isLet c then 1 else if isDig c then 2 else if isMark c then 3 else if c = 32 then 4 else 0
end Go.Proofs.YtabignplhkbcpaaGreatDoor

namespace Go.Proofs.YtabignplhkbcpaaGreatDoor
open Go.RowKit

/-- What a rune is within: 0 spaces, 1 letters, 2 digits, 3 another. -/
def stR (r : Nat) : Nat := if r = 32 then 0 else if 97 ≤ r ∧ r ≤ 122 then 1 else if 48 ≤ r ∧ r ≤ 57 then 2 else 3
theorem stR_high {r : Nat} (h : 128 ≤ r) : stR r = 3 := by unfold stR; rw [if_neg (by omega), if_neg (by omega), if_neg (by omega)]
theorem stR_let {c : UInt8} : stR c.toNat = 1 ↔ isLet c = true := by
  rw [isLet_iff]
  unfold stR
  constructor
  · intro h
    split at h
    · cases h
    · split at h
      · assumption
      · split at h <;> cases h
  · intro h; rw [if_neg (by omega), if_pos h]
theorem stR_dig {c : UInt8} : stR c.toNat = 2 ↔ isDig c = true := by
  rw [isDig_iff]
  unfold stR
  constructor
  · intro h
    split at h
    · cases h
    · split at h
      · cases h
      · split at h
        · assumption
        · cases h
  · intro h; rw [if_neg (by omega), if_neg (by omega), if_pos h]
theorem stR_space {c : UInt8} : stR c.toNat = 0 ↔ c = 32 := by
  unfold stR
  constructor
  · intro h
    split at h
    · exact UInt8.toNat_inj.1 (by assumption)
    · split at h
      · cases h
      · split at h <;> cases h
  · rintro rfl; rfl
theorem stR_le (r : Nat) : stR r ≤ 3 := by
  unfold stR
  split
  · omega
  · split
    · omega
    · split <;> omega

set_option maxHeartbeats 1000000 in
theorem stateOf_any (r : Nat) (w : World) (hr : r ≤ 2147483647) :
    Calls Tryz.prog 82 #[.int .i32 (r : Int)] w fun e w' => e = .returned (.int .i64 (stR r : Int)) ∧ w = w' := by
  by_cases h32 : r = 32
  · subst h32
    go_enter Tryz.func82, Tryz.ntmps82
    go_wp2
    go_ret
    exact ⟨rfl, rfl⟩
  · have q1 : ((r : Int) == 32) = false := by rw [beq_eq_false_iff_ne]; omega
    by_cases hl : 97 ≤ r ∧ r ≤ 122
    · have q2 : decide ((97 : Int) ≤ (r : Int)) = true := by simp; omega
      have q3 : decide ((r : Int) ≤ 122) = true := by simp; omega
      have HS := Lib.hid (show stR r = 1 by unfold stR; rw [if_neg h32, if_pos hl])
      clear hl h32
      go_enter Tryz.func82, Tryz.ntmps82
      go_wp2
      go_ret
      exact ⟨ret_int (by rw [HS.out]; rfl), rfl⟩
    · by_cases hd : 48 ≤ r ∧ r ≤ 57
      · have q2 : decide ((97 : Int) ≤ (r : Int)) = false := by simp; omega
        have q4 : decide ((48 : Int) ≤ (r : Int)) = true := by simp; omega
        have q5 : decide ((r : Int) ≤ 57) = true := by simp; omega
        have HS := Lib.hid (show stR r = 2 by unfold stR; rw [if_neg h32, if_neg hl, if_pos hd])
        clear hl h32 hd
        go_enter Tryz.func82, Tryz.ntmps82
        go_wp2
        go_ret
        exact ⟨ret_int (by rw [HS.out]; rfl), rfl⟩
      · have HS := Lib.hid (show stR r = 3 by unfold stR; rw [if_neg h32, if_neg hl, if_neg hd])
        by_cases h97 : 97 ≤ r
        · have q2 : decide ((97 : Int) ≤ (r : Int)) = true := by simp; omega
          have q3 : decide ((r : Int) ≤ 122) = false := by simp; omega
          have q4 : decide ((48 : Int) ≤ (r : Int)) = true := by simp; omega
          have q5 : decide ((r : Int) ≤ 57) = false := by simp; omega
          clear hl h32 hd h97
          go_enter Tryz.func82, Tryz.ntmps82
          go_wp2
          go_ret
          exact ⟨ret_int (by rw [HS.out]; rfl), rfl⟩
        · have q2 : decide ((97 : Int) ≤ (r : Int)) = false := by simp; omega
          by_cases h48 : 48 ≤ r
          · have q4 : decide ((48 : Int) ≤ (r : Int)) = true := by simp; omega
            have q5 : decide ((r : Int) ≤ 57) = false := by simp; omega
            clear hl h32 hd h97 h48
            go_enter Tryz.func82, Tryz.ntmps82
            go_wp2
            go_ret
            exact ⟨ret_int (by rw [HS.out]; rfl), rfl⟩
          · have q4 : decide ((48 : Int) ≤ (r : Int)) = false := by simp; omega
            clear hl h32 hd h97 h48
            go_enter Tryz.func82, Tryz.ntmps82
            go_wp2
            go_ret
            exact ⟨ret_int (by rw [HS.out]; rfl), rfl⟩

set_option maxRecDepth 100000 in
set_option maxHeartbeats 2000000 in
theorem wordOk_any (s : ByteArray) (w : World) (hs : s.size ≤ 2 ^ 40) :
    Calls Tryz.prog 77 #[.string s] w fun e w' => e = .returned (.bool (wordL (L s))) ∧ Below w.heap.size w w' := by
  have HL := Lib.hid (L_length s)
  by_cases h0 : s.size = 0
  · obtain rfl : s = ByteArray.empty := by
      apply ByteArray.ext; apply Array.toList_inj.1
      exact List.eq_nil_of_length_eq_zero (by rw [Array.length_toList]; exact h0)
    go_enter Tryz.func77, Tryz.ntmps77
    go_wp2
    go_ret
    exact ⟨rfl, Below.refl _ _⟩
  · have q0' : ¬ s.toList = [] := by
      intro e
      rw [ByteArray.toList_eq] at e
      have := congrArg List.length e
      rw [Array.length_toList] at this
      exact h0 this
    have q0 : s.toList.isEmpty = false := by rw [List.isEmpty_eq_false_iff]; exact q0'
    by_cases h8 : 8 < s.size
    · have q1 : decide ((8 : Int) < (s.size : Int)) = true := by simp; omega
      have HF := Lib.hid (show wordL (L s) = false by unfold wordL; rw [HL.out, decide_eq_false (by omega : ¬ s.size ≤ 8)]; simp)
      clear h8
      go_enter Tryz.func77, Tryz.ntmps77
      go_wp2
      go_ret
      exact ⟨ret_bool HF.out.symm, Below.refl _ _⟩
    · have q1 : decide ((8 : Int) < (s.size : Int)) = false := by simp; omega
      go_enter Tryz.func77, Tryz.ntmps77
      go_wp2
      go_loopw [4] (fun _ wr => ∃ pos : Nat, pos ≤ s.size ∧ wr.heap[w.heap.size]? = some (.stringIter s pos) ∧ Below w.heap.size w wr ∧ Hid (((L s).take pos).all isLet = true)) (fun _ wr => s.size - wr.iterPos w.heap.size)
      case atStart =>
        refine ⟨0, Nat.zero_le _, ?_, (Below.refl _ w).alloc (Nat.le_refl _) _, rfl⟩
        exact World.iter_heap w s 0
      case round =>
        clear q0 q0' q1
        obtain ⟨pos, hps, hit, hbw, HP⟩ := hrel
        have hsz : w.heap.size < wr.heap.size := (Array.getElem?_eq_some_iff.1 hit).1
        by_cases hp : pos < s.size
        · by_cases ha : s[pos].toNat < 128
          · have hnx : ∀ ty, (Instr.next (.pointer (some ⟨w.heap.size, 0, none⟩)) true ty).run Tryz.prog wr = _ := fun ty => Lib.run_next_ascii_at wr w.heap.size s pos ty hit hp ha
            have hit2 := Lib.iterAt_heap wr w.heap.size s pos (pos + 1) hit
            have hbw2 := Lib.below_iterAt hbw (k := w.heap.size) (Nat.le_refl _) s (pos + 1)
            have HST := Lib.hid (fun W => stateOf_any s[pos].toNat W (by omega))
            cases hl : isLet s[pos]
            · have HF := Lib.hid (show wordL (L s) = false by unfold wordL; rw [all_take_bad s pos hp hl, Bool.and_false, Bool.and_false])
              have hne : stR s[pos].toNat ≠ 1 := fun h => by rw [stR_let.1 h] at hl; cases hl
              generalize stR s[pos].toNat = st at *
              have q2 : ((st : Int) != 1) = true := by rw [bne_iff_ne]; omega
              clear hne hl
              go_wp2_with fail
              refine (HST.out _).mono ?_
              rintro e w' ⟨rfl, rfl⟩
              go_wp2_with fail
              go_ret
              exact ⟨ret_bool HF.out.symm, hbw2⟩
            · have he : stR s[pos].toNat = 1 := stR_let.2 hl
              rw [he] at HST
              have HP2 := Lib.hid (show ((L s).take (pos + 1)).all isLet = true by rw [L_take s pos hp, List.all_append, HP.out, List.all_cons, hl]; rfl)
              have HIT := Lib.hid hit2
              have HIT0 := Lib.hid hit
              clear he hl
              go_wp2_with fail
              refine (HST.out _).mono ?_
              rintro e w' ⟨rfl, rfl⟩
              go_wp2_with fail
              go_roundw
              case rel => exact ⟨pos + 1, by omega, HIT.out, hbw2, HP2⟩
              case measure =>
                simp only [World.iterPos, HIT.out, HIT0.out]
                omega
          · have hdh := decode_high s pos hp (by omega)
            have hdl := decode_le s pos
            have hnx : ∀ ty, (Instr.next (.pointer (some ⟨w.heap.size, 0, none⟩)) true ty).run Tryz.prog wr = _ := fun ty => Lib.run_next_any_at wr w.heap.size s pos ty hit hp
            have hbw2 := Lib.below_iterAt hbw (k := w.heap.size) (Nat.le_refl _) s (pos + (Utf8.decode s pos).2)
            have HF := Lib.hid (show wordL (L s) = false by
              have : isLet s[pos] = false := by cases h : isLet s[pos]; rfl; rw [isLet_iff] at h; omega
              unfold wordL; rw [all_take_bad s pos hp this, Bool.and_false, Bool.and_false])
            generalize (Utf8.decode s pos).1 = r at *
            generalize (Utf8.decode s pos).2 = wd at *
            have HST := Lib.hid (fun W => stateOf_any r W hdl)
            rw [stR_high hdh.1] at HST
            clear hdh
            go_wp2_with fail
            refine (HST.out _).mono ?_
            rintro e w' ⟨rfl, rfl⟩
            go_wp2_with fail
            go_ret
            exact ⟨ret_bool HF.out.symm, hbw2⟩
        · obtain rfl : s.size = pos := by omega
          have hnx : ∀ ty, (Instr.next (.pointer (some ⟨w.heap.size, 0, none⟩)) true ty).run Tryz.prog wr = _ := fun ty => Lib.run_next_end_at wr w.heap.size s s.size ty hit hp
          have HF := Lib.hid (show wordL (L s) = true by
            have := HP.out
            rw [L_take_all] at this
            unfold wordL
            rw [this, HL.out, decide_eq_true (by omega : 1 ≤ s.size), decide_eq_true (by omega : s.size ≤ 8)]
            rfl)
          go_wp2_with fail
          go_ret
          exact ⟨ret_bool HF.out.symm, hbw⟩
end Go.Proofs.YtabignplhkbcpaaGreatDoor

namespace Go.Proofs.YtabignplhkbcpaaGreatDoor
open Go.RowKit

theorem isS (s : ByteArray) (l : List UInt8) : (s.toList == l) = decide (s = ⟨l.toArray⟩) := by
  rw [ByteArray.toList_eq]
  by_cases h : s = ⟨l.toArray⟩
  · subst h; simp
  · have : ¬ s.data.toList = l := fun e => h (ByteArray.ext (Array.toList_inj.1 (by simp [e])))
    rw [decide_eq_false h, beq_eq_false_iff_ne]
    exact this
theorem isS_eq {s : ByteArray} {l : List UInt8} (h : s.toList = l) : s = ⟨l.toArray⟩ := by
  rw [ByteArray.toList_eq] at h
  exact ByteArray.ext (Array.toList_inj.1 (by simp [h]))
theorem isS_ne {s : ByteArray} {l : List UInt8} (h : ¬ s = ⟨l.toArray⟩) : ¬ s.toList = l := fun e => h (isS_eq e)
theorem toList_S (l : List UInt8) : (ByteArray.mk l.toArray).toList = l := by rw [ByteArray.toList_eq]

set_option maxHeartbeats 1000000 in
theorem l4Type_any (s : ByteArray) (w : World) : Calls Tryz.prog 39 #[.string s] w fun e w' => e = .returned (.bool (typeB s)) ∧ w = w' := by
  have HF := Lib.hid (show typeB s = (s.toList == [105, 110, 116] || s.toList == [98, 111, 111, 108]) by rw [isS, isS]; rfl)
  go_enter Tryz.func39, Tryz.ntmps39
  go_wp2
  all_goals (go_ret; exact ⟨ret_bool (by rw [HF.out] <;> simp [*]), rfl⟩)
set_option maxHeartbeats 1000000 in
theorem l4Held_any (s : ByteArray) (w : World) : Calls Tryz.prog 60 #[.string s] w fun e w' => e = .returned (.bool (heldB s)) ∧ w = w' := by
  have HF := Lib.hid (show heldB s = (s.toList == [108, 101, 116] || (s.toList == [115, 97, 121] || (s.toList == [119, 104, 101, 110] || (s.toList == [97, 115] || (s.toList == [112, 114, 105, 110, 116] || (s.toList == [105, 102] || typeB s)))))) by rw [isS, isS, isS, isS, isS, isS]; rfl)
  go_enter Tryz.func60, Tryz.ntmps60
  go_wp2_with (go_at_call 39; refine (l4Type_any s _).mono ?_; rintro e w' ⟨rfl, rfl⟩)
  all_goals (go_ret; exact ⟨ret_bool (by rw [HF.out] <;> simp [*, Bool.or_assoc]), rfl⟩)
set_option maxHeartbeats 1000000 in
theorem l4Name_any (s : ByteArray) (w : World) (hs : s.size ≤ 2 ^ 40) : Calls Tryz.prog 38 #[.string s] w fun e w' => e = .returned (.bool (nameB s)) ∧ w = w' := by
  have HW := Lib.hid (l3Word_any s w hs)
  have HF := Lib.hid (show nameB s = (wordL (L s) && !heldB s) from rfl)
  go_enter Tryz.func38, Tryz.ntmps38
  go_wp2_with fail
  refine HW.out.mono ?_
  rintro e w' ⟨rfl, rfl⟩
  generalize wordL (L s) = b at *
  cases b
  · go_wp2_with fail
    go_ret
    exact ⟨ret_bool (by rw [HF.out]; rfl), rfl⟩
  · go_wp2_with (go_at_call 60; refine (l4Held_any s _).mono ?_; rintro e w' ⟨rfl, rfl⟩)
    go_ret
    exact ⟨ret_bool (by rw [HF.out]; rfl), rfl⟩
set_option maxHeartbeats 1000000 in
theorem l4Op_any (s : ByteArray) (w : World) : Calls Tryz.prog 73 #[.string s] w fun e w' => e = .returned (.bool (decide (hold s ≠ 0))) ∧ w = w' := by
  have HF := Lib.hid (show decide (hold s ≠ 0) = (s.toList == [43] || (s.toList == [45] || (s.toList == [42] || s.toList == [60]))) by
    rw [isS, isS, isS, isS]
    unfold hold
    by_cases h1 : s = sLess
    · subst h1; rfl
    · by_cases h2 : s = sPlus
      · subst h2; rfl
      · by_cases h3 : s = sMinus
        · subst h3; rfl
        · by_cases h4 : s = sTimes
          · subst h4; rfl
          · rw [if_neg h1, if_neg h2, if_neg h3, if_neg h4, show decide (s = ⟨[43].toArray⟩) = false from decide_eq_false h2, show decide (s = ⟨[45].toArray⟩) = false from decide_eq_false h3, show decide (s = ⟨[42].toArray⟩) = false from decide_eq_false h4, show decide (s = ⟨[60].toArray⟩) = false from decide_eq_false h1]; rfl)
  go_enter Tryz.func73, Tryz.ntmps73
  go_wp2
  all_goals (go_ret; exact ⟨ret_bool (by rw [HF.out] <;> simp [*, Bool.or_assoc]), rfl⟩)

/-- Whether it has the form, not deeper than so. -/
def formB (d : Nat) (e : Ex) : Bool := (ptOf d e).isSome
/-- How many kids there must be, if all else is right. -/
def headOk (k n : Int) (s : ByteArray) : Option Nat :=
  if k = 1 then (if 0 ≤ n ∧ n ≤ 1000000 ∧ s = ByteArray.empty then some 0 else none)
  else if k = 2 then (if n = 0 ∧ nameB s = true then some 0 else none)
  else if k = 3 then (if n = 0 ∧ hold s ≠ 0 then some 2 else none)
  else if k = 4 then (if n = 0 ∧ typeB s = true then some 1 else none)
  else none
theorem form_step (d : Nat) (k n : Int) (s : ByteArray) (ks : List Ex) : formB (d + 1) (.mk k n s ks) = (decide (headOk k n s = some ks.length) && ks.all (formB d)) := by
  unfold formB headOk
  rw [ptOf]
  simp only [Ex.kind, Ex.n, Ex.s, Ex.kids]
  unfold ptStep
  by_cases h1 : k = 1
  · subst h1
    simp only [if_true]
    by_cases hc : 0 ≤ n ∧ n ≤ 1000000 ∧ s = ByteArray.empty
    · rcases ks with _ | ⟨a, ks⟩ <;> simp [hc]
    · rw [if_neg hc, if_neg (fun h => hc ⟨h.1, h.2.1, h.2.2.1⟩)]; simp
  · by_cases h2 : k = 2
    · subst h2
      simp only [if_neg h1, if_true]
      by_cases hc : n = 0 ∧ nameB s = true
      · rcases ks with _ | ⟨a, ks⟩ <;> simp [hc]
      · rw [if_neg hc, if_neg (fun h => hc ⟨h.1, h.2.1⟩)]; simp
    · by_cases h3 : k = 3
      · subst h3
        simp only [if_neg h1, if_neg h2, if_true]
        by_cases hc : n = 0 ∧ hold s ≠ 0
        · rw [if_pos hc, if_pos hc]
          rcases ks with _ | ⟨a, _ | ⟨b, _ | ⟨c, ks⟩⟩⟩ <;> simp [twoOf]
          cases ptOf d a <;> cases ptOf d b <;> simp
        · rw [if_neg hc, if_neg hc]; simp
      · by_cases h4 : k = 4
        · subst h4
          simp only [if_neg h1, if_neg h2, if_neg h3, if_true]
          by_cases hc : n = 0 ∧ typeB s = true
          · rw [if_pos hc, if_pos hc]
            rcases ks with _ | ⟨a, _ | ⟨b, ks⟩⟩ <;> simp [asOf]
          · rw [if_neg hc, if_neg hc]; simp
        · simp only [if_neg h1, if_neg h2, if_neg h3, if_neg h4]; simp
theorem all_take {α : Type} {f : α → Bool} {l : List α} {k : Nat} (h : k < l.length) : (l.take (k + 1)).all f = ((l.take k).all f && f l[k]) := by
  rw [List.take_succ_eq_append_getElem h, List.all_append]; simp
theorem all_bad {α : Type} {f : α → Bool} {l : List α} {k : Nat} (h : k < l.length) (hf : f l[k] = false) : l.all f = false := by
  cases ha : l.all f
  · rfl
  · rw [List.all_eq_true.1 ha l[k] (List.getElem_mem _)] at hf; cases hf

theorem cell_made4 (w : World) (cs : Array Value) (t : TypeId) (j : Nat) (v : Value) (h : cs[j]? = some v) : (w.alloc (.cells cs t)).cell? ⟨w.heap.size, j, none⟩ = some v := by
  have h2 := World.alloc_heap_new w (.cells cs t)
  simp only [World.cell?]
  rw [h2]
  exact h
end Go.Proofs.YtabignplhkbcpaaGreatDoor
