/-
  Plain mathematics of reading: how the program's reader climbs, as a relation; and that it reads the words of a part as that part. No Go.
-/
import Derived.Test.YtodioplkgjpcjaaGreatDoorGA
namespace Go.Proofs.YtodioplkgjpcjaaGreatDoor

/-- The word at a place; the empty text behind the last. -/
def peekL (ws : List ByteArray) (k : Nat) : ByteArray := ws.getD k ByteArray.empty

mutual
inductive Climb (ws : List ByteArray) : Nat → Nat → Option Pt → Nat → Prop
  | no {must k k1 : Nat} : Tight ws k none k1 → Climb ws must k none k1
  | go {must k k1 k2 : Nat} {p : Pt} {r : Option Pt} : Tight ws k (some p) k1 → CLoop ws must p k1 r k2 → Climb ws must k r k2
inductive CLoop (ws : List ByteArray) : Nat → Pt → Nat → Option Pt → Nat → Prop
  | stop {must k : Nat} {p : Pt} : hold (peekL ws k) < must → CLoop ws must p k (some p) k
  | no {must k k1 : Nat} {p : Pt} : must ≤ hold (peekL ws k) → Climb ws (hold (peekL ws k) + 1) (k + 1) none k1 → CLoop ws must p k none k1
  | more {must k k1 k2 : Nat} {p q : Pt} {r : Option Pt} : must ≤ hold (peekL ws k) → Climb ws (hold (peekL ws k) + 1) (k + 1) (some q) k1 → CLoop ws must (.two (peekL ws k) p q) k1 r k2 → CLoop ws must p k r k2
inductive Tight (ws : List ByteArray) : Nat → Option Pt → Nat → Prop
  | no {k k1 : Nat} : Alone ws k none k1 → Tight ws k none k1
  | go {k k1 k2 : Nat} {p : Pt} {r : Option Pt} : Alone ws k (some p) k1 → ALoop ws p k1 r k2 → Tight ws k r k2
inductive ALoop (ws : List ByteArray) : Pt → Nat → Option Pt → Nat → Prop
  | stop {k : Nat} {p : Pt} : peekL ws k ≠ sAs → ALoop ws p k (some p) k
  | no {k : Nat} {p : Pt} : peekL ws k = sAs → typeB (peekL ws (k + 1)) = false → ALoop ws p k none (k + 2)
  | more {k k1 : Nat} {p : Pt} {r : Option Pt} : peekL ws k = sAs → typeB (peekL ws (k + 1)) = true → ALoop ws (.as (peekL ws (k + 1)) p) (k + 2) r k1 → ALoop ws p k r k1
inductive Alone (ws : List ByteArray) : Nat → Option Pt → Nat → Prop
  | inNo {k k1 : Nat} : peekL ws k = sLp → Climb ws 1 (k + 1) none k1 → Alone ws k none k1
  | inBad {k k1 : Nat} {p : Pt} : peekL ws k = sLp → Climb ws 1 (k + 1) (some p) k1 → peekL ws k1 ≠ sRp → Alone ws k none (k1 + 1)
  | inOk {k k1 : Nat} {p : Pt} : peekL ws k = sLp → Climb ws 1 (k + 1) (some p) k1 → peekL ws k1 = sRp → Alone ws k (some p) (k1 + 1)
  | name {k : Nat} : peekL ws k ≠ sLp → nameB (peekL ws k) = true → Alone ws k (some (.name (peekL ws k))) (k + 1)
  | num {k : Nat} : peekL ws k ≠ sLp → nameB (peekL ws k) = false → decL (L (peekL ws k)) = true → Alone ws k (some (.num (decV 0 (L (peekL ws k)) : Int))) (k + 1)
  | no {k : Nat} : peekL ws k ≠ sLp → nameB (peekL ws k) = false → decL (L (peekL ws k)) = false → Alone ws k none (k + 1)
end

theorem peek_at {ws : List ByteArray} {k : Nat} {x : ByteArray} {rest : List ByteArray} (h : ws.drop k = x :: rest) : peekL ws k = x := by
  unfold peekL
  have h1 : ws[k]? = some x := by
    have : (ws.drop k)[0]? = some x := by rw [h]; rfl
    rwa [List.getElem?_drop, Nat.add_zero] at this
  simp [List.getD, h1]
theorem drop_one {ws : List ByteArray} {k : Nat} {x : ByteArray} {rest : List ByteArray} (h : ws.drop k = x :: rest) : ws.drop (k + 1) = rest := by
  rw [← List.drop_drop, h]; rfl
theorem drop_more {ws : List ByteArray} {k : Nat} {xs rest : List ByteArray} (h : ws.drop k = xs ++ rest) : ws.drop (k + xs.length) = rest := by
  rw [← List.drop_drop, h, List.drop_left]
/-- The first word of what is left. -/
def headS (l : List ByteArray) : ByteArray := l.getD 0 ByteArray.empty
theorem peek_head {ws rest : List ByteArray} {k : Nat} (h : ws.drop k = rest) : peekL ws k = headS rest := by
  unfold peekL headS
  subst h
  simp [List.getD, List.getElem?_drop]

theorem word_hold {s : ByteArray} (h : wordL (L s) = true) : hold s = 0 := by
  unfold hold
  repeat' split
  all_goals first | rfl | (rename_i e; subst e; revert h; decide)
theorem dec_hold {s : ByteArray} (h : decL (L s) = true) : hold s = 0 := by
  unfold hold
  repeat' split
  all_goals first | rfl | (rename_i e; subst e; revert h; decide)
theorem name_word {s : ByteArray} (h : nameB s = true) : wordL (L s) = true := by
  simp only [nameB, Bool.and_eq_true] at h; exact h.1
theorem name_lp {s : ByteArray} (h : nameB s = true) : s ≠ sLp := by
  rintro rfl; revert h; decide
theorem name_as {s : ByteArray} (h : nameB s = true) : s ≠ sAs := by
  rintro rfl; revert h; decide
theorem hold_as {s : ByteArray} (h : hold s ≠ 0) : s ≠ sAs := by
  rintro rfl; revert h; decide
theorem dec_lp {s : ByteArray} (h : decL (L s) = true) : s ≠ sLp := by
  rintro rfl; revert h; decide
theorem dec_name {s : ByteArray} (h : decL (L s) = true) : nameB s = false := by
  cases hn : nameB s
  · rfl
  · have h1 := name_word hn
    simp only [wordL, Bool.and_eq_true, decide_eq_true_eq] at h1
    simp only [decL, Bool.and_eq_true] at h
    cases hl : L s with
    | nil => rw [hl] at h1; simp at h1
    | cons c l =>
      rw [hl] at h1 h
      have h2 := let_dig (List.all_eq_true.1 h1.2.2 c (by simp))
      rw [List.all_eq_true.1 h.1 c (by simp)] at h2
      cases h2
theorem decS_L (n : Int) : L (decS n) = Lib.decDigits n.toNat := rfl
theorem decS_dec {n : Int} (h : n ≤ 1000000) : decL (L (decS n)) = true := (decL_iff _).2 ⟨n.toNat, by omega, (decS_L n).symm⟩
theorem decS_val {n : Int} (h0 : 0 ≤ n) : (decV 0 (L (decS n)) : Int) = n := by
  rw [decS_L, (dec_digits n.toNat).2.2.1]; omega

/-- What may stand behind the words of a part that holds so tight. -/
def Behind (t : Nat) (rest : List ByteArray) : Prop := headS rest ≠ sAs ∧ hold (headS rest) ≤ t

/-- Reading words of a part in its place leads to the loop with that part. -/
theorem read_part (ws : List ByteArray) (p : Pt) : p.fine = true →
    (∀ k rest, ws.drop k = p.at 4 ++ rest → ∀ r k', Tight ws k r k' → ALoop ws p (k + (p.at 4).length) r k') ∧
    (∀ must k rest, ws.drop k = p.words ++ rest → must ≤ p.lvl → Behind p.lvl rest → ∀ r k', Climb ws must k r k' → CLoop ws must p (k + p.words.length) r k') := by
  -- a part that stands alone, or within brackets, as the first thing of a climb
  have climb_of_tight : ∀ (q : Pt), (∀ k rest, ws.drop k = q.at 4 ++ rest → ∀ r k', Tight ws k r k' → ALoop ws q (k + (q.at 4).length) r k') →
      ∀ must k rest, ws.drop k = q.at 4 ++ rest → headS rest ≠ sAs → ∀ r k', Climb ws must k r k' → CLoop ws must q (k + (q.at 4).length) r k' := by
    intro q hq must k rest hd hr r k' hc
    have hp := peek_head (drop_more hd)
    cases hc with
    | no ht =>
      have := hq k rest hd _ _ ht
      cases this with
      | no e _ => exact absurd (hp.symm.trans e) hr
      | more e _ _ => exact absurd (hp.symm.trans e) hr
    | go ht hl =>
      have := hq k rest hd _ _ ht
      cases this with
      | stop _ => exact hl
      | more e _ _ => exact absurd (hp.symm.trans e) hr
  induction p with
  | num n =>
    intro hf
    simp only [Pt.fine, Bool.and_eq_true, decide_eq_true_eq] at hf
    have hT : ∀ k rest, ws.drop k = (Pt.num n).at 4 ++ rest → ∀ r k', Tight ws k r k' → ALoop ws (.num n) (k + ((Pt.num n).at 4).length) r k' := by
      intro k rest hd r k' ht
      have hd2 : ws.drop k = decS n :: rest := hd
      have hp := peek_at hd2
      have hdec := decS_dec hf.2
      have hn := dec_name hdec
      have hl := dec_lp hdec
      have hv := decS_val hf.1
      show ALoop ws (.num n) (k + 1) r k'
      cases ht with
      | no ha =>
        cases ha with
        | inNo e _ => exact absurd (hp.symm.trans e) hl
        | inBad e _ _ => exact absurd (hp.symm.trans e) hl
        | no _ _ e => rw [hp, hdec] at e; cases e
      | go ha hl2 =>
        cases ha with
        | inOk e _ _ => exact absurd (hp.symm.trans e) hl
        | name _ e => rw [hp, hn] at e; cases e
        | num _ _ _ => rw [hp, hv] at hl2; exact hl2
    refine ⟨hT, fun must k rest hd hm hb r k' hc => ?_⟩
    exact climb_of_tight (.num n) hT must k rest hd hb.1 r k' hc
  | name s =>
    intro hf
    simp only [Pt.fine] at hf
    have hT : ∀ k rest, ws.drop k = (Pt.name s).at 4 ++ rest → ∀ r k', Tight ws k r k' → ALoop ws (.name s) (k + ((Pt.name s).at 4).length) r k' := by
      intro k rest hd r k' ht
      have hd2 : ws.drop k = s :: rest := hd
      have hp := peek_at hd2
      have hl := name_lp hf
      show ALoop ws (.name s) (k + 1) r k'
      cases ht with
      | no ha =>
        cases ha with
        | inNo e _ => exact absurd (hp.symm.trans e) hl
        | inBad e _ _ => exact absurd (hp.symm.trans e) hl
        | no _ e _ => rw [hp, hf] at e; cases e
      | go ha hl2 =>
        cases ha with
        | inOk e _ _ => exact absurd (hp.symm.trans e) hl
        | name _ e => rw [hp] at hl2; exact hl2
        | num _ e _ => rw [hp, hf] at e; cases e
    refine ⟨hT, fun must k rest hd hm hb r k' hc => ?_⟩
    exact climb_of_tight (.name s) hT must k rest hd hb.1 r k' hc
  | as s a ia =>
    intro hf
    simp only [Pt.fine, Bool.and_eq_true] at hf
    obtain ⟨iT, iC⟩ := ia hf.2
    have hT : ∀ k rest, ws.drop k = (Pt.as s a).at 4 ++ rest → ∀ r k', Tight ws k r k' → ALoop ws (.as s a) (k + ((Pt.as s a).at 4).length) r k' := by
      intro k rest hd r k' ht
      have hd2 : ws.drop k = a.at 4 ++ (sAs :: s :: rest) := by rw [hd]; simp [Pt.at, Pt.words, Pt.lvl, wrapW]
      have h1 := iT k _ hd2 r k' ht
      have h3 := drop_more hd2
      have h4 := drop_one h3
      have e1 := peek_at h3
      have e2 := peek_at h4
      have hlen : ((Pt.as s a).at 4).length = (a.at 4).length + 2 := by simp [Pt.at, Pt.words, Pt.lvl, wrapW]
      rw [hlen, ← Nat.add_assoc]
      cases h1 with
      | stop e => exact absurd e1 e
      | no _ e => rw [e2, hf.1] at e; cases e
      | more _ _ h => rw [e2] at h; exact h
    refine ⟨hT, fun must k rest hd hm hb r k' hc => ?_⟩
    exact climb_of_tight (.as s a) hT must k rest hd hb.1 r k' hc
  | two s a b ia ib =>
    intro hf
    simp only [Pt.fine, Bool.and_eq_true, decide_eq_true_eq] at hf
    obtain ⟨aT, aC⟩ := ia hf.2.1
    obtain ⟨bT, bC⟩ := ib hf.2.2
    have hh := hf.1
    have h3 := hold_le s
    -- a kid in its place, with or without brackets
    have kid : ∀ (q : Pt), (∀ k rest, ws.drop k = q.at 4 ++ rest → ∀ r k', Tight ws k r k' → ALoop ws q (k + (q.at 4).length) r k') →
        (∀ must k rest, ws.drop k = q.words ++ rest → must ≤ q.lvl → Behind q.lvl rest → ∀ r k', Climb ws must k r k' → CLoop ws must q (k + q.words.length) r k') →
        ∀ t must k rest, t ≤ 4 → must ≤ t → ws.drop k = q.at t ++ rest → headS rest ≠ sAs → hold (headS rest) ≤ t → ∀ r k', Climb ws must k r k' → CLoop ws must q (k + (q.at t).length) r k' := by
      intro q qT qC t must k rest ht hm hd h1 h2 r k' hc
      by_cases hlt : q.lvl < t
      · have e : q.at t = q.at 4 := by simp [Pt.at, hlt, show q.lvl < 4 by omega]
        rw [e] at hd ⊢
        exact climb_of_tight q qT must k rest hd h1 r k' hc
      · have e : q.at t = q.words := by simp [Pt.at, hlt, wrapW]
        rw [e] at hd ⊢
        exact qC must k rest hd (by omega) ⟨h1, by omega⟩ r k' hc
    have hC : ∀ must k rest, ws.drop k = (Pt.two s a b).words ++ rest → must ≤ (Pt.two s a b).lvl → Behind (Pt.two s a b).lvl rest → ∀ r k', Climb ws must k r k' → CLoop ws must (.two s a b) (k + (Pt.two s a b).words.length) r k' := by
      intro must k rest hd hm hb r k' hc
      have hd2 : ws.drop k = a.at (max (hold s) 2) ++ (s :: (b.at (hold s + 1) ++ rest)) := by rw [hd]; simp [Pt.words, Pt.at]
      have hd3 := drop_more hd2
      have hd4 := drop_one hd3
      have hp := peek_at hd3
      have hlen : k + (Pt.two s a b).words.length = k + (a.at (max (hold s) 2)).length + 1 + (b.at (hold s + 1)).length := by simp [Pt.words, Pt.at]; omega
      have hm' : must ≤ hold s := hm
      have h1 := kid a aT aC (max (hold s) 2) must k _ (by omega) (by omega) hd2 (show s ≠ sAs from hold_as hh) (show hold s ≤ _ by omega) r k' hc
      rw [hlen]
      have hb2 : hold (headS rest) ≤ hold s := hb.2
      have hp5 := peek_head (drop_more hd4)
      cases h1 with
      | stop e => rw [hp] at e; omega
      | no e hc2 =>
        rw [hp] at hc2
        have h2 := kid b bT bC (hold s + 1) (hold s + 1) _ _ (by omega) (Nat.le_refl _) hd4 hb.1 (by omega) _ _ hc2
        cases h2 with
        | no e2 _ => rw [hp5] at e2; omega
        | more e2 _ _ => rw [hp5] at e2; omega
      | more e hc2 hl =>
        rw [hp] at hc2 hl
        have h2 := kid b bT bC (hold s + 1) (hold s + 1) _ _ (by omega) (Nat.le_refl _) hd4 hb.1 (by omega) _ _ hc2
        cases h2 with
        | stop _ => exact hl
        | more e2 _ _ => rw [hp5] at e2; omega
    refine ⟨fun k rest hd r k' ht => ?_, hC⟩
    have e4 : (Pt.two s a b).at 4 = [sLp] ++ (Pt.two s a b).words ++ [sRp] := by simp [Pt.at, Pt.lvl, wrapW, show hold s < 4 by omega]
    rw [e4] at hd ⊢
    have hd1 : ws.drop k = sLp :: ((Pt.two s a b).words ++ (sRp :: rest)) := by rw [hd]; simp
    have hp := peek_at hd1
    have hd2 := drop_one hd1
    have hd3 := drop_more hd2
    have hp3 := peek_at hd3
    have hrp : hold sRp = 0 := by decide
    have hB : Behind (Pt.two s a b).lvl (sRp :: rest) := ⟨show sRp ≠ sAs by decide, show hold sRp ≤ _ by omega⟩
    have hlen : ([sLp] ++ (Pt.two s a b).words ++ [sRp]).length = 1 + (Pt.two s a b).words.length + 1 := by simp; omega
    rw [hlen, ← Nat.add_assoc, ← Nat.add_assoc]
    have nl : nameB sLp = false := by decide
    cases ht with
    | no ha =>
      cases ha with
      | inNo _ hc =>
        have h1 := hC 1 (k + 1) _ hd2 (by show 1 ≤ hold s; omega) hB _ _ hc
        cases h1 with
        | no e _ => rw [hp3, hrp] at e; omega
        | more e _ _ => rw [hp3, hrp] at e; omega
      | inBad _ hc e =>
        have h1 := hC 1 (k + 1) _ hd2 (by show 1 ≤ hold s; omega) hB _ _ hc
        cases h1 with
        | stop _ => exact absurd hp3 e
        | more e _ _ => rw [hp3, hrp] at e; omega
      | no e _ _ => exact absurd hp e
    | go ha hl =>
      cases ha with
      | inOk _ hc e =>
        have h1 := hC 1 (k + 1) _ hd2 (by show 1 ≤ hold s; omega) hB _ _ hc
        cases h1 with
        | stop _ => exact hl
        | more e _ _ => rw [hp3, hrp] at e; omega
      | name e _ => exact absurd hp e
      | num e _ _ => exact absurd hp e

/-- All words of a part are read as it. -/
theorem read_words {p : Pt} (hf : p.fine = true) {r : Option Pt} {k' : Nat} (h : Climb p.words 1 0 r k') : r = some p := by
  have h1 := (read_part p.words p hf).2 1 0 [] (by simp) (by cases p <;> simp [Pt.lvl]; rename_i s a b; simp [Pt.fine] at hf; omega) ⟨show ByteArray.empty ≠ sAs by decide, show hold ByteArray.empty ≤ _ by rw [show hold ByteArray.empty = 0 by decide]; omega⟩ r k' h
  have hp : peekL p.words (0 + p.words.length) = ByteArray.empty := by simp [peekL]
  have hz : hold ByteArray.empty = 0 := by decide
  cases h1 with
  | stop _ => rfl
  | no e _ => rw [hp, hz] at e; omega
  | more e _ _ => rw [hp, hz] at e; omega
theorem words_inj {p q : Pt} (hp : p.fine = true) (hq : q.fine = true) (h : p.words = q.words) {r : Option Pt} {k' : Nat} (hc : Climb p.words 1 0 r k') : p = q := by
  have h1 := read_words hp hc
  rw [h] at hc
  have h2 := read_words hq hc
  rw [h1] at h2
  injection h2
end Go.Proofs.YtodioplkgjpcjaaGreatDoor
