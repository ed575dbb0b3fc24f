/-
  Plain mathematics of reading: how the model's reader goes, as a relation; and that it reads the words of a part as that part. No Go.
-/
import Derived.Test.YtodioplkgjpcjaaGreatDoorExRead
namespace Go.Proofs.YtodioplkgjpcjaaGreatDoor

mutual
inductive SAtom (ws : List ByteArray) : Nat → Nat → Option (Pt × Nat) → Prop
  | num {d k : Nat} {r : Option (Pt × Nat)} : decL (L (peekL ws k)) = true → SALoop ws (.num (decV 0 (L (peekL ws k)) : Int)) (k + 1) r → SAtom ws d k r
  | name {d k : Nat} {r : Option (Pt × Nat)} : decL (L (peekL ws k)) = false → nameB (peekL ws k) = true → SALoop ws (.name (peekL ws k)) (k + 1) r → SAtom ws d k r
  | inNo {d k : Nat} : decL (L (peekL ws k)) = false → nameB (peekL ws k) = false → peekL ws k = sLp → SLvl1 ws d (k + 1) none → SAtom ws (d + 1) k none
  | inBad {d k k1 : Nat} {p : Pt} : decL (L (peekL ws k)) = false → nameB (peekL ws k) = false → peekL ws k = sLp → SLvl1 ws d (k + 1) (some (p, k1)) → peekL ws k1 ≠ sRp → SAtom ws (d + 1) k none
  | inOk {d k k1 : Nat} {p : Pt} {r : Option (Pt × Nat)} : decL (L (peekL ws k)) = false → nameB (peekL ws k) = false → peekL ws k = sLp → SLvl1 ws d (k + 1) (some (p, k1)) → peekL ws k1 = sRp → SALoop ws p (k1 + 1) r → SAtom ws (d + 1) k r
  | no {d k : Nat} : decL (L (peekL ws k)) = false → nameB (peekL ws k) = false → (peekL ws k ≠ sLp ∨ d = 0) → SAtom ws d k none
inductive SALoop (ws : List ByteArray) : Pt → Nat → Option (Pt × Nat) → Prop
  | stop {k : Nat} {p : Pt} : peekL ws k ≠ sAs → SALoop ws p k (some (p, k))
  | no {k : Nat} {p : Pt} : peekL ws k = sAs → typeB (peekL ws (k + 1)) = false → SALoop ws p k none
  | more {k : Nat} {p : Pt} {r : Option (Pt × Nat)} : peekL ws k = sAs → typeB (peekL ws (k + 1)) = true → SALoop ws (.as (peekL ws (k + 1)) p) (k + 2) r → SALoop ws p k r
/-- Level, how deep, place. -/
inductive SLoop (ws : List ByteArray) : Nat → Nat → Nat → Option (Pt × Nat) → Prop
  | atom {d k : Nat} {r : Option (Pt × Nat)} : SAtom ws d k r → SLoop ws 4 d k r
  | no {l d k : Nat} : l ≤ 3 → SLoop ws (l + 1) d k none → SLoop ws l d k none
  | go {l d k k1 : Nat} {p : Pt} {r : Option (Pt × Nat)} : l ≤ 3 → SLoop ws (l + 1) d k (some (p, k1)) → SRest ws l d p k1 r → SLoop ws l d k r
inductive SRest (ws : List ByteArray) : Nat → Nat → Pt → Nat → Option (Pt × Nat) → Prop
  | stop {l d k : Nat} {p : Pt} : hold (peekL ws k) ≠ l → SRest ws l d p k (some (p, k))
  | no {l d k : Nat} {p : Pt} : hold (peekL ws k) = l → SLoop ws (l + 1) d (k + 1) none → SRest ws l d p k none
  | more {l d k k1 : Nat} {p q : Pt} {r : Option (Pt × Nat)} : hold (peekL ws k) = l → SLoop ws (l + 1) d (k + 1) (some (q, k1)) → SRest ws l d (.two (peekL ws k) p q) k1 r → SRest ws l d p k r
inductive SLvl1 (ws : List ByteArray) : Nat → Nat → Option (Pt × Nat) → Prop
  | no {d k : Nat} : SLoop ws 2 d k none → SLvl1 ws d k none
  | stop {d k k1 : Nat} {p : Pt} : SLoop ws 2 d k (some (p, k1)) → peekL ws k1 ≠ sLess → SLvl1 ws d k (some (p, k1))
  | lessNo {d k k1 : Nat} {p : Pt} : SLoop ws 2 d k (some (p, k1)) → peekL ws k1 = sLess → SLoop ws 2 d (k1 + 1) none → SLvl1 ws d k none
  | less {d k k1 k2 : Nat} {p q : Pt} : SLoop ws 2 d k (some (p, k1)) → peekL ws k1 = sLess → SLoop ws 2 d (k1 + 1) (some (q, k2)) → SLvl1 ws d k (some (.two sLess p q, k2))
end

theorem hold_less {s : ByteArray} : hold s = 1 ↔ s = sLess := by
  unfold hold
  constructor
  · intro h
    repeat' split at h
    all_goals first | assumption | omega
  · intro h; rw [if_pos h]

/-- What it says of a part, at one depth of brackets. -/
def SReads (ws : List ByteArray) (p : Pt) (d : Nat) : Prop :=
  (∀ k rest, ws.drop k = p.at 4 ++ rest → p.depth ≤ (if p.lvl < 4 then d else d + 1) → ∀ r, SAtom ws d k r → SALoop ws p (k + (p.at 4).length) r) ∧
  (∀ l k rest, ws.drop k = p.words ++ rest → p.depth ≤ d + 1 → 2 ≤ l → l ≤ 3 → l ≤ p.lvl → headS rest ≠ sAs → hold (headS rest) ≤ l → ∀ r, SLoop ws l d k r → SRest ws l d p (k + p.words.length) r)

/-- A part that stands alone or within brackets, in a loop. -/
theorem sloop_atom {ws : List ByteArray} {q : Pt} {d : Nat} (hq : ∀ k rest, ws.drop k = q.at 4 ++ rest → q.depth ≤ (if q.lvl < 4 then d else d + 1) → ∀ r, SAtom ws d k r → SALoop ws q (k + (q.at 4).length) r) :
    ∀ k rest, ws.drop k = q.at 4 ++ rest → q.depth ≤ (if q.lvl < 4 then d else d + 1) → headS rest ≠ sAs →
      (∀ r, SLoop ws 4 d k r → r = some (q, k + (q.at 4).length)) ∧ (∀ l, 2 ≤ l → l ≤ 3 → hold (headS rest) ≤ l → ∀ r, SLoop ws l d k r → SRest ws l d q (k + (q.at 4).length) r) := by
  intro k rest hd hdp hr
  have hp := peek_head (drop_more hd)
  have h4 : ∀ r, SLoop ws 4 d k r → r = some (q, k + (q.at 4).length) := by
    intro r h
    cases h with
    | atom ha =>
      have := hq k rest hd hdp _ ha
      cases this with
      | stop _ => rfl
      | no e _ => exact absurd (hp.symm.trans e) hr
      | more e _ _ => exact absurd (hp.symm.trans e) hr
    | no h _ => omega
    | go h _ _ => omega
  have h3 : ∀ r, SLoop ws 3 d k r → SRest ws 3 d q (k + (q.at 4).length) r := by
    intro r h
    cases h with
    | no _ h => have := h4 _ h; cases this
    | go _ h h2 => have := h4 _ h; cases this; exact h2
  refine ⟨h4, fun l h2 hl3 hh r h => ?_⟩
  have hl : l = 2 ∨ l = 3 := by omega
  rcases hl with rfl | rfl
  · cases h with
    | no _ h =>
      have := h3 _ h
      cases this with
      | no e _ => rw [hp] at e; omega
      | more e _ _ => rw [hp] at e; omega
    | go _ h hh2 =>
      have := h3 _ h
      cases this with
      | stop _ => exact hh2
      | more e _ _ => rw [hp] at e; omega
  · exact h3 r h

theorem sread_part (ws : List ByteArray) (p : Pt) : p.fine = true → ∀ d, SReads ws p d := by
  induction p with
  | num n =>
    intro hf d
    simp only [Pt.fine, Bool.and_eq_true, decide_eq_true_eq] at hf
    have hA : ∀ k rest, ws.drop k = (Pt.num n).at 4 ++ rest → (Pt.num n).depth ≤ (if (Pt.num n).lvl < 4 then d else d + 1) → ∀ r, SAtom ws d k r → SALoop ws (.num n) (k + ((Pt.num n).at 4).length) r := by
      intro k rest hd _ r h
      have hd2 : ws.drop k = decS n :: rest := hd
      have hp := peek_at hd2
      have hdec := decS_dec hf.2
      have hv := decS_val hf.1
      show SALoop ws (.num n) (k + 1) r
      cases h with
      | num _ h => rw [hp, hv] at h; exact h
      | name e _ _ => rw [hp, hdec] at e; cases e
      | inNo e _ _ _ => rw [hp, hdec] at e; cases e
      | inBad e _ _ _ _ => rw [hp, hdec] at e; cases e
      | inOk e _ _ _ _ _ => rw [hp, hdec] at e; cases e
      | no e _ _ => rw [hp, hdec] at e; cases e
    exact ⟨hA, fun l k rest hd hdp h2 h3 _ h4 h5 r h => (sloop_atom hA k rest hd (by simp [Pt.lvl, Pt.depth]) h4).2 l h2 h3 h5 r h⟩
  | name s =>
    intro hf d
    simp only [Pt.fine] at hf
    have hnd : decL (L s) = false := by
      cases h : decL (L s)
      · rfl
      · rw [dec_name h] at hf; cases hf
    have hA : ∀ k rest, ws.drop k = (Pt.name s).at 4 ++ rest → (Pt.name s).depth ≤ (if (Pt.name s).lvl < 4 then d else d + 1) → ∀ r, SAtom ws d k r → SALoop ws (.name s) (k + ((Pt.name s).at 4).length) r := by
      intro k rest hd _ r h
      have hd2 : ws.drop k = s :: rest := hd
      have hp := peek_at hd2
      show SALoop ws (.name s) (k + 1) r
      cases h with
      | num e _ => rw [hp, hnd] at e; cases e
      | name _ _ h => rw [hp] at h; exact h
      | inNo _ e _ _ => rw [hp, hf] at e; cases e
      | inBad _ e _ _ _ => rw [hp, hf] at e; cases e
      | inOk _ e _ _ _ _ => rw [hp, hf] at e; cases e
      | no _ e _ => rw [hp, hf] at e; cases e
    exact ⟨hA, fun l k rest hd hdp h2 h3 _ h4 h5 r h => (sloop_atom hA k rest hd (by simp [Pt.lvl, Pt.depth]) h4).2 l h2 h3 h5 r h⟩
  | as s a ia =>
    intro hf d
    simp only [Pt.fine, Bool.and_eq_true] at hf
    obtain ⟨iA, _⟩ := ia hf.2 d
    have hA : ∀ k rest, ws.drop k = (Pt.as s a).at 4 ++ rest → (Pt.as s a).depth ≤ (if (Pt.as s a).lvl < 4 then d else d + 1) → ∀ r, SAtom ws d k r → SALoop ws (.as s a) (k + ((Pt.as s a).at 4).length) r := by
      intro k rest hd hdp r h
      have hd2 : ws.drop k = a.at 4 ++ (sAs :: s :: rest) := by rw [hd]; simp [Pt.at, Pt.words, Pt.lvl, wrapW]
      have hda : a.depth ≤ (if a.lvl < 4 then d else d + 1) := by
        simp [Pt.lvl, Pt.depth] at hdp
        split <;> omega
      have h1 := iA k _ hd2 hda r h
      have h3 := drop_more hd2
      have h4 := drop_one h3
      have e1 := peek_at h3
      have e2 := peek_at h4
      have hlen : ((Pt.as s a).at 4).length = (a.at 4).length + 2 := by simp [Pt.at, Pt.words, Pt.lvl, wrapW]
      rw [hlen, ← Nat.add_assoc]
      cases h1 with
      | stop e => exact absurd e1 e
      | no _ e => rw [e2, hf.1] at e; cases e
      | more _ _ h => rw [e2] at h; exact h
    exact ⟨hA, fun l k rest hd hdp h2 h3 _ h4 h5 r h => (sloop_atom hA k rest (by rw [hd]; simp [Pt.at, Pt.lvl, wrapW]) (by simpa [Pt.lvl] using hdp) h4).2 l h2 h3 h5 r h |> (by simp [Pt.at, Pt.lvl, wrapW] at *; exact ·)⟩
  | two s a b ia ib =>
    intro hf d
    simp only [Pt.fine, Bool.and_eq_true, decide_eq_true_eq] at hf
    have hh := hf.1
    have h3 := hold_le s
    -- a kid in its place
    have kid : ∀ (q : Pt) (d : Nat), SReads ws q d → q.depth ≤ d → ∀ t l k rest, 2 ≤ l → l ≤ 3 → l ≤ t → t ≤ 4 → ws.drop k = q.at t ++ rest → headS rest ≠ sAs → hold (headS rest) ≤ l →
        ∀ r, SLoop ws l d k r → SRest ws l d q (k + (q.at t).length) r := by
      intro q d hq hdp t l k rest h2 hl3 hlt ht hd h4 h5 r h
      by_cases hb : q.lvl < t
      · have e : q.at t = q.at 4 := by simp [Pt.at, hb, show q.lvl < 4 by omega]
        rw [e] at hd ⊢
        exact (sloop_atom hq.1 k rest hd (by split <;> omega) h4).2 l h2 hl3 h5 r h
      · have e : q.at t = q.words := by simp [Pt.at, hb, wrapW]
        rw [e] at hd ⊢
        exact hq.2 l k rest hd (by omega) h2 hl3 (by omega) h4 h5 r h
    -- a kid as the whole of a tighter loop
    have kid1 : ∀ (q : Pt) (d : Nat), SReads ws q d → q.depth ≤ d → ∀ l k rest, 2 ≤ l → l ≤ 4 → ws.drop k = q.at l ++ rest → headS rest ≠ sAs → hold (headS rest) < l →
        ∀ r, SLoop ws l d k r → r = some (q, k + (q.at l).length) := by
      intro q d hq hdp l k rest h2 hl4 hd h4 h5 r h
      by_cases e4 : l = 4
      · subst e4
        exact (sloop_atom hq.1 k rest hd (by split <;> omega) h4).1 r h
      · have h1 := kid q d hq hdp l l k rest h2 (by omega) (Nat.le_refl _) hl4 hd h4 (by omega) r h
        have hp := peek_head (drop_more hd)
        cases h1 with
        | stop _ => rfl
        | no e _ => rw [hp] at e; omega
        | more e _ _ => rw [hp] at e; omega
    have hB : ∀ d, (Pt.two s a b).depth ≤ d + 1 → ∀ l k rest, ws.drop k = (Pt.two s a b).words ++ rest → 2 ≤ l → l ≤ 3 → l ≤ (Pt.two s a b).lvl → headS rest ≠ sAs → hold (headS rest) ≤ l → ∀ r, SLoop ws l d k r → SRest ws l d (.two s a b) (k + (Pt.two s a b).words.length) r := by
      intro d hdp l k rest hd h2 hl3 hlv h4 h5 r h
      simp only [Pt.depth] at hdp
      have hlv' : l ≤ hold s := hlv
      have hd2 : ws.drop k = a.at (max (hold s) 2) ++ (s :: (b.at (hold s + 1) ++ rest)) := by rw [hd]; simp [Pt.words, Pt.at]
      have emax : max (hold s) 2 = hold s := by omega
      rw [emax] at hd2
      have hd3 := drop_more hd2
      have hd4 := drop_one hd3
      have hp := peek_at hd3
      have hlen : k + (Pt.two s a b).words.length = k + (a.at (hold s)).length + 1 + (b.at (hold s + 1)).length := by simp [Pt.words, Pt.at, emax]; omega
      have hp5 := peek_head (drop_more hd4)
      have base : ∀ r, SLoop ws (hold s) d k r → SRest ws (hold s) d (.two s a b) (k + (Pt.two s a b).words.length) r := by
        intro r h
        rw [hlen]
        have h1 := kid a d (ia hf.2.1 d) (by omega) (hold s) (hold s) k _ (by omega) (by omega) (Nat.le_refl _) (by omega) hd2 (show s ≠ sAs from hold_as hh) (show hold s ≤ _ by omega) r h
        cases h1 with
        | stop e => rw [hp] at e; exact absurd rfl e
        | no e hc =>
          have := kid1 b d (ib hf.2.2 d) (by omega) (hold s + 1) _ _ (by omega) (by omega) hd4 h4 (by omega) _ hc
          cases this
        | more e hc hl =>
          have := kid1 b d (ib hf.2.2 d) (by omega) (hold s + 1) _ _ (by omega) (by omega) hd4 h4 (by omega) _ hc
          cases this
          rw [hp] at hl
          exact hl
      by_cases el : l = hold s
      · subst el; exact base r h
      · have el2 : l = 2 := by omega
        have eh3 : hold s = 3 := by omega
        subst el2
        have hpe : peekL ws (k + (Pt.two s a b).words.length) = headS rest := peek_head (drop_more hd)
        rw [eh3] at base
        cases h with
        | no _ h =>
          have := base _ h
          cases this with
          | no e _ => rw [hpe] at e; omega
          | more e _ _ => rw [hpe] at e; omega
        | go _ h hr =>
          have := base _ h
          cases this with
          | stop _ => exact hr
          | more e _ _ => rw [hpe] at e; omega
    refine ⟨fun k rest hd hdp r h => ?_, fun l k rest hd hdp h2 hl3 hlv h4 h5 r h => hB d hdp l k rest hd h2 hl3 hlv h4 h5 r h⟩
    have hl4 : (Pt.two s a b).lvl < 4 := by show hold s < 4; omega
    rw [if_pos hl4] at hdp
    have e4 : (Pt.two s a b).at 4 = [sLp] ++ (Pt.two s a b).words ++ [sRp] := by simp [Pt.at, hl4, wrapW]
    rw [e4] at hd ⊢
    have hd1 : ws.drop k = sLp :: ((Pt.two s a b).words ++ (sRp :: rest)) := by rw [hd]; simp
    have hp := peek_at hd1
    have hd2 := drop_one hd1
    have hd3 := drop_more hd2
    have hp3 := peek_at hd3
    have hrp : hold sRp = 0 := by decide
    have hlen : ([sLp] ++ (Pt.two s a b).words ++ [sRp]).length = 1 + (Pt.two s a b).words.length + 1 := by simp; omega
    rw [hlen, ← Nat.add_assoc, ← Nat.add_assoc]
    have nl : nameB sLp = false := by decide
    have dl : decL (L sLp) = false := by decide
    -- within the brackets
    have inside : ∀ d', d = d' + 1 → ∀ r, SLvl1 ws d' (k + 1) r → r = some (.two s a b, k + 1 + (Pt.two s a b).words.length) := by
      intro d' hd' r0 hi0
      subst hd'
      by_cases hs : hold s = 1
      · have es := hold_less.1 hs
        have hd5 : ws.drop (k + 1) = a.at 2 ++ (s :: (b.at 2 ++ (sRp :: rest))) := by rw [hd2]; simp [Pt.words, Pt.at, hs]
        have hd6 := drop_more hd5
        have hd7 := drop_one hd6
        have hp6 := peek_at hd6
        simp only [Pt.depth] at hdp
        have hlen2 : k + 1 + (Pt.two s a b).words.length = k + 1 + (a.at 2).length + 1 + (b.at 2).length := by simp [Pt.words, Pt.at, hs]; omega
        have ka := kid1 a d' (ia hf.2.1 d') (by omega) 2 (k + 1) _ (by omega) (by omega) hd5 (show s ≠ sAs from hold_as hh) (show hold s < 2 by omega)
        have kb := kid1 b d' (ib hf.2.2 d') (by omega) 2 _ _ (by omega) (by omega) hd7 (show sRp ≠ sAs by decide) (show hold sRp < 2 by omega)
        rw [hlen2]
        cases hi0 with
        | no h => have := ka _ h; cases this
        | stop h e => have := ka _ h; cases this; exact absurd (hp6.trans es) e
        | lessNo h _ h2 => have := ka _ h; cases this; have := kb _ h2; cases this
        | less h _ h2 => have := ka _ h; cases this; have := kb _ h2; cases this; rw [← es]
      · have hs2 : 2 ≤ hold s := by omega
        have k2 : ∀ r, SLoop ws 2 d' (k + 1) r → r = some (.two s a b, k + 1 + (Pt.two s a b).words.length) := by
          intro r h
          have h1 := hB d' (by omega) 2 (k + 1) (sRp :: rest) hd2 (by omega) (by omega) hs2 (show sRp ≠ sAs by decide) (show hold sRp ≤ 2 by omega) r h
          cases h1 with
          | stop _ => rfl
          | no e _ => rw [hp3, hrp] at e; omega
          | more e _ _ => rw [hp3, hrp] at e; omega
        have hne : sRp ≠ sLess := by decide
        cases hi0 with
        | no h => have := k2 _ h; cases this
        | stop h _ => exact k2 _ h
        | lessNo h e _ => have := k2 _ h; cases this; exact absurd (hp3.symm.trans e) hne
        | less h e _ => have := k2 _ h; cases this; exact absurd (hp3.symm.trans e) hne
    cases h with
    | num e _ => rw [hp, dl] at e; cases e
    | name _ e _ => rw [hp, nl] at e; cases e
    | inNo _ _ _ h => have := inside _ rfl _ h; cases this
    | inBad _ _ _ h e => have := inside _ rfl _ h; cases this; exact absurd hp3 e
    | inOk _ _ _ h _ h2 => have := inside _ rfl _ h; cases this; exact h2
    | no _ _ e =>
      rcases e with e | e
      · exact absurd hp e
      · subst e; have := (Pt.two s a b).depth_pos; omega

/-- All words of a part are read as it. -/
theorem sread_words {p : Pt} (hf : p.fine = true) {d : Nat} (hd : p.depth ≤ d) {r : Option (Pt × Nat)} (h : SLvl1 p.words d 0 r) : r = some (p, p.words.length) := by
  have hz : hold ByteArray.empty = 0 := by decide
  have hpe : peekL p.words p.words.length = ByteArray.empty := by simp [peekL]
  have he : ByteArray.empty ≠ sLess := by decide
  have hea : ByteArray.empty ≠ sAs := by decide
  have kid1 : ∀ (ws : List ByteArray) (q : Pt) (d : Nat), q.fine = true → q.depth ≤ d → ∀ k rest, ws.drop k = q.at 2 ++ rest → headS rest ≠ sAs → hold (headS rest) < 2 → ∀ r, SLoop ws 2 d k r → r = some (q, k + (q.at 2).length) := by
    intro ws q d hqf hdp k rest hd h4 h5 r h
    have hq := sread_part ws q hqf d
    have hp := peek_head (drop_more hd)
    have h1 : SRest ws 2 d q (k + (q.at 2).length) r := by
      by_cases hb : q.lvl < 2
      · have e : q.at 2 = q.at 4 := by simp [Pt.at, hb, show q.lvl < 4 by omega]
        rw [e] at hd ⊢
        exact (sloop_atom hq.1 k rest hd (by split <;> omega) h4).2 2 (by omega) (by omega) (by omega) r h
      · have e : q.at 2 = q.words := by simp [Pt.at, hb, wrapW]
        rw [e] at hd ⊢
        exact hq.2 2 k rest hd (by omega) (by omega) (by omega) (by omega) h4 (by omega) r h
    cases h1 with
    | stop _ => rfl
    | no e _ => rw [hp] at e; omega
    | more e _ _ => rw [hp] at e; omega
  by_cases h1 : p.lvl < 2
  · match p, hf, hd, hpe, h, h1 with
    | .two s a b, hf, hd, hpe, hM, h1 =>
      simp only [Pt.fine, Bool.and_eq_true, decide_eq_true_eq] at hf
      simp only [Pt.depth] at hd
      have hs : hold s = 1 := by have : hold s < 2 := h1; omega
      have es := hold_less.1 hs
      generalize hw : (Pt.two s a b).words = ws at hM hpe ⊢
      have hd5 : ws.drop 0 = a.at 2 ++ (s :: (b.at 2 ++ [])) := by rw [← hw]; simp [Pt.words, Pt.at, hs]
      have hd6 := drop_more hd5
      have hd7 := drop_one hd6
      have hp6 := peek_at hd6
      have hlen2 : ws.length = 0 + (a.at 2).length + 1 + (b.at 2).length := by rw [← hw]; simp [Pt.words, Pt.at, hs]; omega
      have ka := kid1 ws a d hf.2.1 (by omega) 0 _ hd5 (show s ≠ sAs from hold_as (by omega)) (show hold s < 2 by omega)
      have kb := kid1 ws b d hf.2.2 (by omega) _ _ hd7 hea (show hold ByteArray.empty < 2 by omega)
      rw [hlen2]
      cases hM with
      | no hL => have := ka _ hL; cases this
      | stop hL e => have := ka _ hL; cases this; exact absurd (hp6.trans es) e
      | lessNo hL _ h2 => have := ka _ hL; cases this; have := kb _ h2; cases this
      | less hL _ h2 => have := ka _ hL; cases this; have := kb _ h2; cases this; rw [← es]
  · have e2 : p.at 2 = p.words := by simp [Pt.at, h1, wrapW]
    have k2 := kid1 p.words p d hf hd 0 [] (by rw [e2]; simp) hea (show hold ByteArray.empty < 2 by omega)
    rw [e2, Nat.zero_add] at k2
    cases h with
    | no h => have := k2 _ h; cases this
    | stop h _ => exact k2 _ h
    | lessNo h e _ => have := k2 _ h; cases this; exact absurd (hpe.symm.trans e) he
    | less h e _ => have := k2 _ h; cases this; exact absurd (hpe.symm.trans e) he
end Go.Proofs.YtodioplkgjpcjaaGreatDoor
