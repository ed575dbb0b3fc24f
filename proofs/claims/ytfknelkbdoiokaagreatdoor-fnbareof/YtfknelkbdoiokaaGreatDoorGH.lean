/-
  ExRead, ExBal, LineMath, BareMath, TurnMath: these texts one behind the other, as a claim holds at most 60 files.
-/
import Derived.Test.YtfknelkbdoiokaaGreatDoorGA
import Derived.Test.YtfknelkbdoiokaaGreatDoorGP
import Derived.Test.YtfknelkbdoiokaaGreatDoorGS
namespace Go.Proofs.YtfknelkbdoiokaaGreatDoor

/-- The word at a place; the empty text behind the last. -/
def peekL (ws : List ByteArray) (k : Nat) : ByteArray := ws.getD k ByteArray.empty

mutual
inductive Climb (ws : List ByteArray) : Nat → Nat → Option Pt → Nat → Prop
  | no {must k k1 : Nat} : Tight ws k none k1 → Climb ws must k none k1
  | go {must k k1 k2 : Nat} {p : Pt} {r : Option Pt} : Tight ws k (some p) k1 → CLoop ws must p k1 r k2 → Climb ws must k r k2
inductive CLoop (ws : List ByteArray) : Nat → Pt → Nat → Option Pt → Nat → Prop
  | stop {must k : Nat} {p : Pt} : hold (peekL ws k) < must → CLoop ws must p k (some p) k
  | no {must k k1 : Nat} {p : Pt} : must ≤ hold (peekL ws k) → Climb ws (hold (peekL ws k) + 1) (k + 1) none k1 → CLoop ws must p k none k1
  | more {must k k1 k2 : Nat} {p q : Pt} {r : Option Pt} : must ≤ hold (peekL ws k) → Climb ws (hold (peekL ws k) + 1) (k + 1) (some q) k1 → CLoop ws must (.two (peekL ws k) p q) k1 r k2 → CLoop ws must p k r k2
inductive Tight (ws : List ByteArray) : Nat → Option Pt → Nat → Prop
  | no {k k1 : Nat} : Alone ws k none k1 → Tight ws k none k1
  | go {k k1 k2 : Nat} {p : Pt} {r : Option Pt} : Alone ws k (some p) k1 → ALoop ws p k1 r k2 → Tight ws k r k2
inductive ALoop (ws : List ByteArray) : Pt → Nat → Option Pt → Nat → Prop
  | stop {k : Nat} {p : Pt} : peekL ws k ≠ sAs → ALoop ws p k (some p) k
  | no {k : Nat} {p : Pt} : peekL ws k = sAs → typeB (peekL ws (k + 1)) = false → ALoop ws p k none (k + 2)
  | more {k k1 : Nat} {p : Pt} {r : Option Pt} : peekL ws k = sAs → typeB (peekL ws (k + 1)) = true → ALoop ws (.as (peekL ws (k + 1)) p) (k + 2) r k1 → ALoop ws p k r k1
inductive Alone (ws : List ByteArray) : Nat → Option Pt → Nat → Prop
  | inNo {k k1 : Nat} : peekL ws k = sLp → Climb ws 1 (k + 1) none k1 → Alone ws k none k1
  | inBad {k k1 : Nat} {p : Pt} : peekL ws k = sLp → Climb ws 1 (k + 1) (some p) k1 → peekL ws k1 ≠ sRp → Alone ws k none (k1 + 1)
  | inOk {k k1 : Nat} {p : Pt} : peekL ws k = sLp → Climb ws 1 (k + 1) (some p) k1 → peekL ws k1 = sRp → Alone ws k (some p) (k1 + 1)
  | name {k : Nat} : peekL ws k ≠ sLp → nameB (peekL ws k) = true → Alone ws k (some (.name (peekL ws k))) (k + 1)
  | num {k : Nat} : peekL ws k ≠ sLp → nameB (peekL ws k) = false → decL (L (peekL ws k)) = true → Alone ws k (some (.num (decV 0 (L (peekL ws k)) : Int))) (k + 1)
  | no {k : Nat} : peekL ws k ≠ sLp → nameB (peekL ws k) = false → decL (L (peekL ws k)) = false → Alone ws k none (k + 1)
end

theorem peek_at {ws : List ByteArray} {k : Nat} {x : ByteArray} {rest : List ByteArray} (h : ws.drop k = x :: rest) : peekL ws k = x := by
  unfold peekL
  have h1 : ws[k]? = some x := by
    have : (ws.drop k)[0]? = some x := by rw [h]; rfl
    rwa [List.getElem?_drop, Nat.add_zero] at this
  simp [List.getD, h1]
theorem drop_one {ws : List ByteArray} {k : Nat} {x : ByteArray} {rest : List ByteArray} (h : ws.drop k = x :: rest) : ws.drop (k + 1) = rest := by
  rw [← List.drop_drop, h]; rfl
theorem drop_more {ws : List ByteArray} {k : Nat} {xs rest : List ByteArray} (h : ws.drop k = xs ++ rest) : ws.drop (k + xs.length) = rest := by
  rw [← List.drop_drop, h, List.drop_left]
/-- The first word of what is left. -/
def headS (l : List ByteArray) : ByteArray := l.getD 0 ByteArray.empty
theorem peek_head {ws rest : List ByteArray} {k : Nat} (h : ws.drop k = rest) : peekL ws k = headS rest := by
  unfold peekL headS
  subst h
  simp [List.getD, List.getElem?_drop]

theorem word_hold {s : ByteArray} (h : wordL (L s) = true) : hold s = 0 := by
  unfold hold
  repeat' split
  all_goals first | rfl | (rename_i e; subst e; revert h; decide)
theorem dec_hold {s : ByteArray} (h : decL (L s) = true) : hold s = 0 := by
  unfold hold
  repeat' split
  all_goals first | rfl | (rename_i e; subst e; revert h; decide)
theorem name_word {s : ByteArray} (h : nameB s = true) : wordL (L s) = true := by
  simp only [nameB, Bool.and_eq_true] at h; exact h.1
theorem name_lp {s : ByteArray} (h : nameB s = true) : s ≠ sLp := by
  rintro rfl; revert h; decide
theorem name_as {s : ByteArray} (h : nameB s = true) : s ≠ sAs := by
  rintro rfl; revert h; decide
theorem hold_as {s : ByteArray} (h : hold s ≠ 0) : s ≠ sAs := by
  rintro rfl; revert h; decide
theorem dec_lp {s : ByteArray} (h : decL (L s) = true) : s ≠ sLp := by
  rintro rfl; revert h; decide
theorem dec_name {s : ByteArray} (h : decL (L s) = true) : nameB s = false := by
  cases hn : nameB s
  · rfl
  · have h1 := name_word hn
    simp only [wordL, Bool.and_eq_true, decide_eq_true_eq] at h1
    simp only [decL, Bool.and_eq_true] at h
    cases hl : L s with
    | nil => rw [hl] at h1; simp at h1
    | cons c l =>
      rw [hl] at h1 h
      have h2 := let_dig (List.all_eq_true.1 h1.2.2 c (by simp))
      rw [List.all_eq_true.1 h.1 c (by simp)] at h2
      cases h2
theorem decS_L (n : Int) : L (decS n) = Lib.decDigits n.toNat := rfl
theorem decS_dec {n : Int} (h : n ≤ 1000000) : decL (L (decS n)) = true := (decL_iff _).2 ⟨n.toNat, by omega, (decS_L n).symm⟩
theorem decS_val {n : Int} (h0 : 0 ≤ n) : (decV 0 (L (decS n)) : Int) = n := by
  rw [decS_L, (dec_digits n.toNat).2.2.1]; omega

/-- What may stand behind the words of a part that holds so tight. -/
def Behind (t : Nat) (rest : List ByteArray) : Prop := headS rest ≠ sAs ∧ hold (headS rest) ≤ t

/-- Reading words of a part in its place leads to the loop with that part. -/
theorem read_part (ws : List ByteArray) (p : Pt) : p.fine = true →
    (∀ k rest, ws.drop k = p.at 4 ++ rest → ∀ r k', Tight ws k r k' → ALoop ws p (k + (p.at 4).length) r k') ∧
    (∀ must k rest, ws.drop k = p.words ++ rest → must ≤ p.lvl → Behind p.lvl rest → ∀ r k', Climb ws must k r k' → CLoop ws must p (k + p.words.length) r k') := by
  -- a part that stands alone, or within brackets, as the first thing of a climb
  have climb_of_tight : ∀ (q : Pt), (∀ k rest, ws.drop k = q.at 4 ++ rest → ∀ r k', Tight ws k r k' → ALoop ws q (k + (q.at 4).length) r k') →
      ∀ must k rest, ws.drop k = q.at 4 ++ rest → headS rest ≠ sAs → ∀ r k', Climb ws must k r k' → CLoop ws must q (k + (q.at 4).length) r k' := by
    intro q hq must k rest hd hr r k' hc
    have hp := peek_head (drop_more hd)
    cases hc with
    | no ht =>
      have := hq k rest hd _ _ ht
      cases this with
      | no e _ => exact absurd (hp.symm.trans e) hr
      | more e _ _ => exact absurd (hp.symm.trans e) hr
    | go ht hl =>
      have := hq k rest hd _ _ ht
      cases this with
      | stop _ => exact hl
      | more e _ _ => exact absurd (hp.symm.trans e) hr
  induction p with
  | num n =>
    intro hf
    simp only [Pt.fine, Bool.and_eq_true, decide_eq_true_eq] at hf
    have hT : ∀ k rest, ws.drop k = (Pt.num n).at 4 ++ rest → ∀ r k', Tight ws k r k' → ALoop ws (.num n) (k + ((Pt.num n).at 4).length) r k' := by
      intro k rest hd r k' ht
      have hd2 : ws.drop k = decS n :: rest := hd
      have hp := peek_at hd2
      have hdec := decS_dec hf.2
      have hn := dec_name hdec
      have hl := dec_lp hdec
      have hv := decS_val hf.1
      show ALoop ws (.num n) (k + 1) r k'
      cases ht with
      | no ha =>
        cases ha with
        | inNo e _ => exact absurd (hp.symm.trans e) hl
        | inBad e _ _ => exact absurd (hp.symm.trans e) hl
        | no _ _ e => rw [hp, hdec] at e; cases e
      | go ha hl2 =>
        cases ha with
        | inOk e _ _ => exact absurd (hp.symm.trans e) hl
        | name _ e => rw [hp, hn] at e; cases e
        | num _ _ _ => rw [hp, hv] at hl2; exact hl2
    refine ⟨hT, fun must k rest hd hm hb r k' hc => ?_⟩
    exact climb_of_tight (.num n) hT must k rest hd hb.1 r k' hc
  | name s =>
    intro hf
    simp only [Pt.fine] at hf
    have hT : ∀ k rest, ws.drop k = (Pt.name s).at 4 ++ rest → ∀ r k', Tight ws k r k' → ALoop ws (.name s) (k + ((Pt.name s).at 4).length) r k' := by
      intro k rest hd r k' ht
      have hd2 : ws.drop k = s :: rest := hd
      have hp := peek_at hd2
      have hl := name_lp hf
      show ALoop ws (.name s) (k + 1) r k'
      cases ht with
      | no ha =>
        cases ha with
        | inNo e _ => exact absurd (hp.symm.trans e) hl
        | inBad e _ _ => exact absurd (hp.symm.trans e) hl
        | no _ e _ => rw [hp, hf] at e; cases e
      | go ha hl2 =>
        cases ha with
        | inOk e _ _ => exact absurd (hp.symm.trans e) hl
        | name _ e => rw [hp] at hl2; exact hl2
        | num _ e _ => rw [hp, hf] at e; cases e
    refine ⟨hT, fun must k rest hd hm hb r k' hc => ?_⟩
    exact climb_of_tight (.name s) hT must k rest hd hb.1 r k' hc
  | «as» s a ia =>
    intro hf
    simp only [Pt.fine, Bool.and_eq_true] at hf
    obtain ⟨iT, iC⟩ := ia hf.2
    have hT : ∀ k rest, ws.drop k = (Pt.as s a).at 4 ++ rest → ∀ r k', Tight ws k r k' → ALoop ws (.as s a) (k + ((Pt.as s a).at 4).length) r k' := by
      intro k rest hd r k' ht
      have hd2 : ws.drop k = a.at 4 ++ (sAs :: s :: rest) := by rw [hd]; simp [Pt.at, Pt.words, Pt.lvl, wrapW]
      have h1 := iT k _ hd2 r k' ht
      have h3 := drop_more hd2
      have h4 := drop_one h3
      have e1 := peek_at h3
      have e2 := peek_at h4
      have hlen : ((Pt.as s a).at 4).length = (a.at 4).length + 2 := by simp [Pt.at, Pt.words, Pt.lvl, wrapW]
      rw [hlen, ← Nat.add_assoc]
      cases h1 with
      | stop e => exact absurd e1 e
      | no _ e => rw [e2, hf.1] at e; cases e
      | more _ _ h => rw [e2] at h; exact h
    refine ⟨hT, fun must k rest hd hm hb r k' hc => ?_⟩
    exact climb_of_tight (.as s a) hT must k rest hd hb.1 r k' hc
  | two s a b ia ib =>
    intro hf
    simp only [Pt.fine, Bool.and_eq_true, decide_eq_true_eq] at hf
    obtain ⟨aT, aC⟩ := ia hf.2.1
    obtain ⟨bT, bC⟩ := ib hf.2.2
    have hh := hf.1
    have h3 := hold_le s
    -- a kid in its place, with or without brackets
    have kid : ∀ (q : Pt), (∀ k rest, ws.drop k = q.at 4 ++ rest → ∀ r k', Tight ws k r k' → ALoop ws q (k + (q.at 4).length) r k') →
        (∀ must k rest, ws.drop k = q.words ++ rest → must ≤ q.lvl → Behind q.lvl rest → ∀ r k', Climb ws must k r k' → CLoop ws must q (k + q.words.length) r k') →
        ∀ t must k rest, t ≤ 4 → must ≤ t → ws.drop k = q.at t ++ rest → headS rest ≠ sAs → hold (headS rest) ≤ t → ∀ r k', Climb ws must k r k' → CLoop ws must q (k + (q.at t).length) r k' := by
      intro q qT qC t must k rest ht hm hd h1 h2 r k' hc
      by_cases hlt : q.lvl < t
      · have e : q.at t = q.at 4 := by simp [Pt.at, hlt, show q.lvl < 4 by omega]
        rw [e] at hd ⊢
        exact climb_of_tight q qT must k rest hd h1 r k' hc
      · have e : q.at t = q.words := by simp [Pt.at, hlt, wrapW]
        rw [e] at hd ⊢
        exact qC must k rest hd (by omega) ⟨h1, by omega⟩ r k' hc
    have hC : ∀ must k rest, ws.drop k = (Pt.two s a b).words ++ rest → must ≤ (Pt.two s a b).lvl → Behind (Pt.two s a b).lvl rest → ∀ r k', Climb ws must k r k' → CLoop ws must (.two s a b) (k + (Pt.two s a b).words.length) r k' := by
      intro must k rest hd hm hb r k' hc
      have hd2 : ws.drop k = a.at (max (hold s) 2) ++ (s :: (b.at (hold s + 1) ++ rest)) := by rw [hd]; simp [Pt.words, Pt.at]
      have hd3 := drop_more hd2
      have hd4 := drop_one hd3
      have hp := peek_at hd3
      have hlen : k + (Pt.two s a b).words.length = k + (a.at (max (hold s) 2)).length + 1 + (b.at (hold s + 1)).length := by simp [Pt.words, Pt.at]; omega
      have hm' : must ≤ hold s := hm
      have h1 := kid a aT aC (max (hold s) 2) must k _ (by omega) (by omega) hd2 (show s ≠ sAs from hold_as hh) (show hold s ≤ _ by omega) r k' hc
      rw [hlen]
      have hb2 : hold (headS rest) ≤ hold s := hb.2
      have hp5 := peek_head (drop_more hd4)
      cases h1 with
      | stop e => rw [hp] at e; omega
      | no e hc2 =>
        rw [hp] at hc2
        have h2 := kid b bT bC (hold s + 1) (hold s + 1) _ _ (by omega) (Nat.le_refl _) hd4 hb.1 (by omega) _ _ hc2
        cases h2 with
        | no e2 _ => rw [hp5] at e2; omega
        | more e2 _ _ => rw [hp5] at e2; omega
      | more e hc2 hl =>
        rw [hp] at hc2 hl
        have h2 := kid b bT bC (hold s + 1) (hold s + 1) _ _ (by omega) (Nat.le_refl _) hd4 hb.1 (by omega) _ _ hc2
        cases h2 with
        | stop _ => exact hl
        | more e2 _ _ => rw [hp5] at e2; omega
    refine ⟨fun k rest hd r k' ht => ?_, hC⟩
    have e4 : (Pt.two s a b).at 4 = [sLp] ++ (Pt.two s a b).words ++ [sRp] := by simp [Pt.at, Pt.lvl, wrapW, show hold s < 4 by omega]
    rw [e4] at hd ⊢
    have hd1 : ws.drop k = sLp :: ((Pt.two s a b).words ++ (sRp :: rest)) := by rw [hd]; simp
    have hp := peek_at hd1
    have hd2 := drop_one hd1
    have hd3 := drop_more hd2
    have hp3 := peek_at hd3
    have hrp : hold sRp = 0 := by decide
    have hB : Behind (Pt.two s a b).lvl (sRp :: rest) := ⟨show sRp ≠ sAs by decide, show hold sRp ≤ _ by omega⟩
    have hlen : ([sLp] ++ (Pt.two s a b).words ++ [sRp]).length = 1 + (Pt.two s a b).words.length + 1 := by simp; omega
    rw [hlen, ← Nat.add_assoc, ← Nat.add_assoc]
    have nl : nameB sLp = false := by decide
    cases ht with
    | no ha =>
      cases ha with
      | inNo _ hc =>
        have h1 := hC 1 (k + 1) _ hd2 (by show 1 ≤ hold s; omega) hB _ _ hc
        cases h1 with
        | no e _ => rw [hp3, hrp] at e; omega
        | more e _ _ => rw [hp3, hrp] at e; omega
      | inBad _ hc e =>
        have h1 := hC 1 (k + 1) _ hd2 (by show 1 ≤ hold s; omega) hB _ _ hc
        cases h1 with
        | stop _ => exact absurd hp3 e
        | more e _ _ => rw [hp3, hrp] at e; omega
      | no e _ _ => exact absurd hp e
    | go ha hl =>
      cases ha with
      | inOk _ hc e =>
        have h1 := hC 1 (k + 1) _ hd2 (by show 1 ≤ hold s; omega) hB _ _ hc
        cases h1 with
        | stop _ => exact hl
        | more e _ _ => rw [hp3, hrp] at e; omega
      | name e _ => exact absurd hp e
      | num e _ _ => exact absurd hp e

/-- All words of a part are read as it. -/
theorem read_words {p : Pt} (hf : p.fine = true) {r : Option Pt} {k' : Nat} (h : Climb p.words 1 0 r k') : r = some p := by
  have h1 := (read_part p.words p hf).2 1 0 [] (by simp) (by cases p <;> simp [Pt.lvl]; rename_i s a b; simp [Pt.fine] at hf; omega) ⟨show ByteArray.empty ≠ sAs by decide, show hold ByteArray.empty ≤ _ by rw [show hold ByteArray.empty = 0 by decide]; omega⟩ r k' h
  have hp : peekL p.words (0 + p.words.length) = ByteArray.empty := by simp [peekL]
  have hz : hold ByteArray.empty = 0 := by decide
  cases h1 with
  | stop _ => rfl
  | no e _ => rw [hp, hz] at e; omega
  | more e _ _ => rw [hp, hz] at e; omega
theorem words_inj {p q : Pt} (hp : p.fine = true) (hq : q.fine = true) (h : p.words = q.words) {r : Option Pt} {k' : Nat} (hc : Climb p.words 1 0 r k') : p = q := by
  have h1 := read_words hp hc
  rw [h] at hc
  have h2 := read_words hq hc
  rw [h1] at h2
  injection h2
end Go.Proofs.YtfknelkbdoiokaaGreatDoor

namespace Go.Proofs.YtfknelkbdoiokaaGreatDoor

/-- By how much more brackets are open behind a word. -/
def brk (s : ByteArray) : Int := if s = sLp then 1 else if s = sRp then -1 else 0
def dep : List ByteArray → Int
  | [] => 0
  | s :: l => brk s + dep l
theorem dep_append (xs ys : List ByteArray) : dep (xs ++ ys) = dep xs + dep ys := by
  induction xs with
  | nil => simp [dep]
  | cons x xs ih => simp only [List.cons_append, dep, ih]; omega
theorem dep_le (xs : List ByteArray) : dep xs ≤ xs.length := by
  induction xs with
  | nil => simp [dep]
  | cons x xs ih =>
    have : brk x ≤ 1 := by unfold brk; split; · omega
                           · split <;> omega
    simp only [dep, List.length_cons]; omega
def Bal (l : List ByteArray) : Prop := dep l = 0 ∧ ∀ i, 0 ≤ dep (l.take i)
theorem bal_append {xs ys : List ByteArray} (h1 : Bal xs) (h2 : Bal ys) : Bal (xs ++ ys) := by
  refine ⟨by rw [dep_append, h1.1, h2.1]; rfl, fun i => ?_⟩
  rw [List.take_append, dep_append]
  have a := h1.2 i
  have b := h2.2 (i - xs.length)
  omega
theorem bal_one {s : ByteArray} (h1 : s ≠ sLp) (h2 : s ≠ sRp) : Bal [s] := by
  have hb : brk s = 0 := by unfold brk; rw [if_neg h1, if_neg h2]
  refine ⟨by simp [dep, hb], fun i => ?_⟩
  cases i with
  | zero => simp [dep]
  | succ i => simp [dep, hb]
theorem take_wrap (l : List ByteArray) (i : Nat) : 0 < i → i ≤ l.length + 1 → ([sLp] ++ l ++ [sRp]).take i = sLp :: l.take (i - 1) := by
  intro h0 h1
  obtain ⟨j, rfl⟩ : ∃ j, i = j + 1 := ⟨i - 1, by omega⟩
  simp only [List.cons_append, List.nil_append, List.take_succ_cons, Nat.add_sub_cancel]
  rw [List.take_append_of_le_length (by omega)]
theorem brk_lp : brk sLp = 1 := by decide
theorem brk_rp : brk sRp = -1 := by decide
theorem bal_wrap {b : Bool} {l : List ByteArray} (h : Bal l) : Bal (wrapW b l) := by
  unfold wrapW
  split
  · refine ⟨by rw [dep_append, dep_append, h.1]; simp [dep, brk_lp, brk_rp], fun i => ?_⟩
    rcases Nat.eq_zero_or_pos i with rfl | hi
    · simp [dep]
    · by_cases hl : i ≤ l.length + 1
      · rw [take_wrap l i hi hl]
        have := h.2 (i - 1)
        simp only [dep, brk_lp]; omega
      · rw [List.take_of_length_le (by simp; omega), dep_append, dep_append, h.1]; simp [dep, brk_lp, brk_rp]
  · exact h
theorem dec_rp {s : ByteArray} (h : decL (L s) = true) : s ≠ sRp := by rintro rfl; revert h; decide
theorem name_rp {s : ByteArray} (h : nameB s = true) : s ≠ sRp := by rintro rfl; revert h; decide
theorem hold_lp {s : ByteArray} (h : hold s ≠ 0) : s ≠ sLp := by rintro rfl; revert h; decide
theorem hold_rp {s : ByteArray} (h : hold s ≠ 0) : s ≠ sRp := by rintro rfl; revert h; decide
theorem type_lp {s : ByteArray} (h : typeB s = true) : s ≠ sLp := by rintro rfl; revert h; decide
theorem type_rp {s : ByteArray} (h : typeB s = true) : s ≠ sRp := by rintro rfl; revert h; decide
theorem bal_words (p : Pt) : p.fine = true → Bal p.words := by
  induction p with
  | num n =>
    intro h
    simp only [Pt.fine, Bool.and_eq_true, decide_eq_true_eq] at h
    exact bal_one (dec_lp (decS_dec h.2)) (dec_rp (decS_dec h.2))
  | name s => intro h; exact bal_one (name_lp h) (name_rp h)
  | two s a b ia ib =>
    intro h
    simp only [Pt.fine, Bool.and_eq_true, decide_eq_true_eq] at h
    exact bal_append (bal_append (bal_wrap (ia h.2.1)) (bal_one (hold_lp h.1) (hold_rp h.1))) (bal_wrap (ib h.2.2))
  | «as» s a ia =>
    intro h
    simp only [Pt.fine, Bool.and_eq_true] at h
    have e : [sAs, s] = [sAs] ++ [s] := rfl
    show Bal (wrapW _ a.words ++ [sAs, s])
    rw [e]
    exact bal_append (bal_wrap (ia h.2)) (bal_append (bal_one (by decide) (by decide)) (bal_one (type_lp h.1) (type_rp h.1)))
/-- With a bracket behind them they are no words. -/
theorem words_more {p q : Pt} (hp : p.fine = true) (hq : q.fine = true) : q.words ≠ p.words ++ [sRp] := by
  intro e
  have h1 := (bal_words q hq).1
  rw [e, dep_append, (bal_words p hp).1] at h1
  simp [dep, brk_rp] at h1
theorem wrap_pos (b : Bool) (p : Pt) : 1 ≤ (wrapW b p.words).length := by
  have := p.words_pos
  unfold wrapW; split <;> simp <;> omega
/-- With brackets around them they are no words. -/
theorem words_around {p q : Pt} (hp : p.fine = true) (hq : q.fine = true) : q.words ≠ [sLp] ++ p.words ++ [sRp] := by
  intro e
  have hl := congrArg List.length e
  have hpp := p.words_pos
  simp only [List.length_append, List.length_singleton] at hl
  cases q with
  | num n => simp [Pt.words] at hl
  | name s => simp [Pt.words] at hl
  | «as» s a =>
    simp only [Pt.fine, Bool.and_eq_true] at hq
    have e2 : wrapW (decide (a.lvl < 4)) a.words ++ [sAs] ++ [s] = [sLp] ++ p.words ++ [sRp] := by rw [← e]; simp [Pt.words]
    have e3 := List.append_inj_right' e2 rfl
    simp at e3
    exact type_rp hq.1 e3
  | two s a b =>
    simp only [Pt.fine, Bool.and_eq_true, decide_eq_true_eq] at hq
    have hb := (bal_wrap (b := decide (a.lvl < max (hold s) 2)) (bal_words a hq.2.1)).1
    have hw := wrap_pos (decide (a.lvl < max (hold s) 2)) a
    have hw2 : (Pt.two s a b).words = wrapW (decide (a.lvl < max (hold s) 2)) a.words ++ ([s] ++ wrapW (decide (b.lvl < hold s + 1)) b.words) := by simp [Pt.words]
    rw [hw2] at e hl
    generalize wrapW (decide (a.lvl < max (hold s) 2)) a.words = X at *
    generalize wrapW (decide (b.lvl < hold s + 1)) b.words = Y at *
    simp only [List.length_append, List.length_singleton] at hl
    have h3 := congrArg (List.take X.length) e
    rw [List.take_left, take_wrap p.words X.length (by omega) (by omega)] at h3
    rw [h3] at hb
    have h4 := (bal_words p hp).2 (X.length - 1)
    simp only [dep, brk_lp] at hb
    omega
theorem kind_word {s : ByteArray} (h : wordL (L s) = true) : kindL (L s) ≠ 0 := by unfold kindL; rw [h]; simp
theorem kind_words (p : Pt) : p.fine = true → ∀ s ∈ p.words, kindL (L s) ≠ 0 := by
  have hw : ∀ (b : Bool) (l : List ByteArray), (∀ s ∈ l, kindL (L s) ≠ 0) → ∀ s ∈ wrapW b l, kindL (L s) ≠ 0 := by
    intro b l h s hs
    unfold wrapW at hs
    split at hs
    · simp at hs
      rcases hs with rfl | hs | rfl
      · decide
      · exact h s hs
      · decide
    · exact h s hs
  have hd : ∀ s, decL (L s) = true → kindL (L s) ≠ 0 := by
    intro s h
    unfold kindL
    rw [h]
    by_cases hx : wordL (L s) = true <;> simp [hx]
  have hh : ∀ s, hold s ≠ 0 → kindL (L s) ≠ 0 := by
    intro s h
    have h1 : s = sLess ∨ s = sPlus ∨ s = sMinus ∨ s = sTimes := by
      unfold hold at h
      by_cases h1 : s = sLess
      · exact .inl h1
      by_cases h2 : s = sPlus
      · exact .inr (.inl h2)
      by_cases h3 : s = sMinus
      · exact .inr (.inr (.inl h3))
      by_cases h4 : s = sTimes
      · exact .inr (.inr (.inr h4))
      simp [h1, h2, h3, h4] at h
    rcases h1 with rfl | rfl | rfl | rfl <;> decide
  have ht : ∀ s, typeB s = true → kindL (L s) ≠ 0 := by
    intro s h
    simp only [typeB, Bool.or_eq_true, decide_eq_true_eq] at h
    rcases h with rfl | rfl <;> decide
  induction p with
  | num n =>
    intro h s hs
    simp only [Pt.fine, Bool.and_eq_true, decide_eq_true_eq] at h
    simp [Pt.words] at hs
    subst hs
    exact hd _ (decS_dec h.2)
  | name t =>
    intro h s hs
    simp [Pt.words] at hs
    subst hs
    exact kind_word (name_word h)
  | two t a b ia ib =>
    intro h s hs
    simp only [Pt.fine, Bool.and_eq_true, decide_eq_true_eq] at h
    simp only [Pt.words, List.mem_append, List.mem_singleton] at hs
    rcases hs with (hs | rfl) | hs
    · exact hw _ _ (ia h.2.1) s hs
    · exact hh _ h.1
    · exact hw _ _ (ib h.2.2) s hs
  | «as» t a ia =>
    intro h s hs
    simp only [Pt.fine, Bool.and_eq_true] at h
    simp only [Pt.words, List.mem_append, List.mem_cons, List.not_mem_nil, or_false] at hs
    rcases hs with hs | rfl | rfl
    · exact hw _ _ (ia h.2) s hs
    · decide
    · exact ht _ h.1
end Go.Proofs.YtfknelkbdoiokaaGreatDoor

namespace Go.Proofs.YtfknelkbdoiokaaGreatDoor

theorem Pt.words_two (p : Pt) : p.fine = true → p.words.length + 1 ≤ 2 * p.nodes ∧ (p.lvl < 4 → p.words.length + 3 ≤ 2 * p.nodes) := by
  have wr : ∀ (c : Bool) (a : Pt), (c = true → a.lvl < 4) → a.words.length + 1 ≤ 2 * a.nodes ∧ (a.lvl < 4 → a.words.length + 3 ≤ 2 * a.nodes) → (wrapW c a.words).length + 1 ≤ 2 * a.nodes := by
    intro c a hc ha
    cases c with
    | false => exact ha.1
    | true =>
      have h1 := ha.2 (hc rfl)
      have h2 := wrapW_length true a.words
      omega
  induction p with
  | num n => intro _; simp [Pt.words, Pt.nodes, Pt.lvl]
  | name s => intro _; simp [Pt.words, Pt.nodes, Pt.lvl]
  | two s a b ia ib =>
    intro hf
    simp only [Pt.fine, Bool.and_eq_true] at hf
    have h3 := hold_le s
    have h1 := wr (decide (a.lvl < max (hold s) 2)) a (fun h => by simp at h; omega) (ia hf.2.1)
    have h2 := wr (decide (b.lvl < hold s + 1)) b (fun h => by simp at h; omega) (ib hf.2.2)
    have e : (Pt.two s a b).words.length = (wrapW (decide (a.lvl < max (hold s) 2)) a.words).length + 1 + (wrapW (decide (b.lvl < hold s + 1)) b.words).length := by simp only [Pt.words, List.length_append, List.length_cons, List.length_nil]
    have en : (Pt.two s a b).nodes = a.nodes + b.nodes + 1 := rfl
    exact ⟨by omega, fun _ => by omega⟩
  | «as» s a ia =>
    intro hf
    simp only [Pt.fine, Bool.and_eq_true] at hf
    have h1 := wr (decide (a.lvl < 4)) a (fun h => by simpa using h) (ia hf.2)
    have e : (Pt.as s a).words.length = (wrapW (decide (a.lvl < 4)) a.words).length + 2 := by simp only [Pt.words, List.length_append, List.length_cons, List.length_nil]
    have en : (Pt.as s a).nodes = a.nodes + 1 := rfl
    exact ⟨by omega, fun h => absurd h (by show ¬ (4 : Nat) < 4; omega)⟩
theorem Pt.words_23 {p : Pt} (h : p.ok = true) : p.words.length ≤ 23 := by
  have h1 := (p.words_two (ok_fine h)).1
  simp only [Pt.ok, Bool.and_eq_true, decide_eq_true_eq] at h
  have := h.2.2
  omega
theorem De.words_49 {d : De} (h : d.fine = true) : d.words.length ≤ 49 := by
  cases d with
  | noD => simp [De.words]
  | letD n t p =>
    simp only [De.fine, Bool.and_eq_true] at h
    have := Pt.words_23 h.2.2
    simp only [De.words, List.length_append, List.length_cons, List.length_nil]; omega
  | sayD p =>
    have := Pt.words_23 (p := p) h
    simp only [De.words, List.length_cons]; omega
  | whenD p q =>
    simp only [De.fine, Bool.and_eq_true] at h
    have h1 := Pt.words_23 h.1
    have h2 := Pt.words_23 h.2
    simp only [De.words, List.cons_append, List.length_append, List.length_cons]; omega
theorem De.words_kind {d : De} (h : d.fine = true) : ∀ s ∈ d.words, kindL (L s) ≠ 0 := by
  intro s hs
  cases d with
  | noD => simp [De.words] at hs
  | letD n t p =>
    simp only [De.fine, Bool.and_eq_true] at h
    simp only [De.words, List.mem_append, List.mem_cons, List.not_mem_nil, or_false] at hs
    rcases hs with (rfl | rfl | rfl | rfl | rfl) | hs
    · decide
    · exact kind_words (.name s) h.1 s (by simp [Pt.words])
    · decide
    · have ht := h.2.1
      simp only [typeB, Bool.or_eq_true, decide_eq_true_eq] at ht
      rcases ht with rfl | rfl <;> decide
    · decide
    · exact kind_words p (ok_fine h.2.2) s hs
  | sayD p =>
    simp only [De.words, List.mem_cons] at hs
    rcases hs with rfl | hs
    · decide
    · exact kind_words p (ok_fine h) s hs
  | whenD p q =>
    simp only [De.fine, Bool.and_eq_true] at h
    simp only [De.words, List.cons_append, List.mem_append, List.mem_cons] at hs
    rcases hs with rfl | hs | rfl | hs
    · decide
    · exact kind_words p (ok_fine h.1) s hs
    · decide
    · exact kind_words q (ok_fine h.2) s hs
/-- The words of a line's text are the line's words. -/
theorem De.toks {d : De} (h : d.fine = true) (hw : d.text.size ≤ 116) : toksR d.text = some (joinToks d.words d.words.length) :=
  toksR_join d.words (De.words_kind h) (by have : (joinK d.words d.words.length).size ≤ 116 := hw; omega)
/-- Lines of one text have the same words. -/
theorem De.text_words {d d' : De} (h : d.fine = true) (h' : d'.fine = true) (hw : d.text.size ≤ 116) (he : d.text = d'.text) : d.words = d'.words := by
  have h1 := De.toks h hw
  rw [he, De.toks h' (by rw [← he]; exact hw)] at h1
  have h2 : joinToks d'.words d'.words.length = joinToks d.words d.words.length := by injection h1
  have hl : d'.words.length = d.words.length := by
    have := congrArg List.length h2
    rwa [joinToks_length, joinToks_length] at this
  refine List.ext_getElem hl.symm fun i h3 h4 => ?_
  have e1 := joinToks_get d.words d.words.length i h3 (Nat.le_refl _)
  have e2 := joinToks_get d'.words d'.words.length i h4 (Nat.le_refl _)
  have e3 : (joinToks d'.words d'.words.length)[i]'(by rw [joinToks_length]; exact h4) = (joinToks d.words d.words.length)[i]'(by rw [joinToks_length]; exact h3) := by
    simp only [h2]
  rw [e3, e1] at e2
  injection e2 with q1 q2
  injection q2 with q3 q4
end Go.Proofs.YtfknelkbdoiokaaGreatDoor

namespace Go.Proofs.YtfknelkbdoiokaaGreatDoor

def plainW (s : ByteArray) : Bool := !(decide (s = sAs) || typeB s)
theorem plainW_iff {s : ByteArray} : plainW s = true ↔ s ≠ sAs ∧ s ≠ sInt ∧ s ≠ sBool := by
  simp [plainW, typeB]
theorem name_plain {s : ByteArray} (h : nameB s = true) : plainW s = true := by
  have hh : heldB s = false := by simp only [nameB, Bool.and_eq_true, Bool.not_eq_true'] at h; exact h.2
  simp only [heldB, Bool.or_eq_false_iff] at hh
  simp [plainW, hh.2.2.2.1, hh.2.2.2.2.2.2]
theorem hold_plain {s : ByteArray} (h : hold s ≠ 0) : plainW s = true := by
  unfold hold at h
  by_cases h1 : s = sLess
  · rw [h1]; decide
  by_cases h2 : s = sPlus
  · rw [h2]; decide
  by_cases h3 : s = sMinus
  · rw [h3]; decide
  by_cases h4 : s = sTimes
  · rw [h4]; decide
  rw [if_neg h1, if_neg h2, if_neg h3, if_neg h4] at h
  exact absurd rfl h
theorem dec_plain {s : ByteArray} (h : decL (L s) = true) : plainW s = true := by
  rw [plainW_iff]
  refine ⟨?_, ?_, ?_⟩ <;> (rintro rfl; revert h; decide)
theorem wrap_plain {b : Bool} {ws : List ByteArray} (h : ∀ s ∈ ws, plainW s = true) : ∀ s ∈ wrapW b ws, plainW s = true := by
  intro s hs
  unfold wrapW at hs
  split at hs
  · simp only [List.mem_append, List.mem_singleton] at hs
    rcases hs with (rfl | hs) | rfl
    · decide
    · exact h s hs
    · decide
  · exact h s hs
theorem bare_plain (p : Pt) (h : p.fine = true) : ∀ s ∈ p.bare.words, plainW s = true := by
  induction p with
  | num n =>
    simp only [Pt.fine, Bool.and_eq_true, decide_eq_true_eq] at h
    intro s hs
    simp only [Pt.bare, Pt.words, List.mem_singleton] at hs
    subst hs
    exact dec_plain (decS_dec h.2)
  | name x =>
    intro s hs
    simp only [Pt.bare, Pt.words, List.mem_singleton] at hs
    subst hs
    exact name_plain h
  | two x a b ia ib =>
    simp only [Pt.fine, Bool.and_eq_true, decide_eq_true_eq] at h
    intro s hs
    simp only [Pt.bare, Pt.words, List.mem_append, List.mem_singleton] at hs
    rcases hs with (hs | rfl) | hs
    · exact wrap_plain (ia h.2.1) s hs
    · exact hold_plain h.1
    · exact wrap_plain (ib h.2.2) s hs
  | «as» x a ia =>
    simp only [Pt.fine, Bool.and_eq_true] at h
    exact ia h.2

theorem wrapW_len (b : Bool) (ws : List ByteArray) : (wrapW b ws).length = ws.length + if b then 2 else 0 := by unfold wrapW; split <;> simp
theorem wrapW_more (b : Bool) (ws : List ByteArray) : ws.length ≤ (wrapW b ws).length := by rw [wrapW_len]; omega
theorem bare_at (p : Pt) : ∀ t, (p.bare.at t).length ≤ (p.at t).length := by
  induction p with
  | num n => intro t; exact Nat.le_refl _
  | name s => intro t; exact Nat.le_refl _
  | two s a b ia ib =>
    intro t
    have h1 := ia (max (hold s) 2)
    have h2 := ib (hold s + 1)
    unfold Pt.at at h1 h2 ⊢
    rw [wrapW_len _ (Pt.two s a b).bare.words, wrapW_len _ (Pt.two s a b).words, show (Pt.two s a b).bare.lvl = (Pt.two s a b).lvl from rfl]
    refine Nat.add_le_add_right ?_ _
    simp only [Pt.bare, Pt.words, List.length_append, List.length_singleton]
    omega
  | «as» s a ia =>
    intro t
    have h1 := ia 0
    unfold Pt.at at h1 ⊢
    rw [wrapW_len, wrapW_len, show decide (a.bare.lvl < 0) = false by simp, show decide (a.lvl < 0) = false by simp] at h1
    have h2 := wrapW_length (decide (a.bare.lvl < t)) a.bare.words
    have h3 := wrapW_more (decide ((Pt.as s a).lvl < t)) (Pt.as s a).words
    have h4 := wrapW_more (decide (a.lvl < 4)) a.words
    have h5 : (Pt.as s a).words.length = (wrapW (decide (a.lvl < 4)) a.words).length + 2 := by simp only [Pt.words, List.length_append, List.length_cons, List.length_nil]
    show (wrapW (decide (a.bare.lvl < t)) a.bare.words).length ≤ _
    simp only [Bool.false_eq_true, if_false] at h1
    omega
theorem bare_words (p : Pt) : p.bare.words.length ≤ p.words.length := by
  have h := bare_at p 0
  unfold Pt.at at h
  rw [wrapW_len, wrapW_len, show decide (p.bare.lvl < 0) = false by simp, show decide (p.lvl < 0) = false by simp] at h
  simpa using h
end Go.Proofs.YtfknelkbdoiokaaGreatDoor

namespace Go.Proofs.YtfknelkbdoiokaaGreatDoor

theorem tot_app (a b : List ByteArray) : tot (a ++ b) = tot a + tot b := by simp [tot]
theorem tot_cons (s : ByteArray) (l : List ByteArray) : tot (s :: l) = s.size + 1 + tot l := by simp [tot]
theorem tot_nil : tot [] = 0 := rfl
theorem tot_wrap (b : Bool) (ws : List ByteArray) : tot (wrapW b ws) = tot ws + if b then 4 else 0 := by
  unfold wrapW
  split
  · rw [tot_app, tot_app, tot_cons, tot_cons, tot_nil, show sLp.size = 1 from rfl, show sRp.size = 1 from rfl]; omega
  · rfl
theorem bare_tot_at (p : Pt) : ∀ t, tot (p.bare.at t) ≤ tot (p.at t) := by
  induction p with
  | num n => intro t; exact Nat.le_refl _
  | name s => intro t; exact Nat.le_refl _
  | two s a b ia ib =>
    intro t
    have h1 := ia (max (hold s) 2)
    have h2 := ib (hold s + 1)
    unfold Pt.at at h1 h2 ⊢
    rw [tot_wrap _ (Pt.two s a b).bare.words, tot_wrap _ (Pt.two s a b).words, show (Pt.two s a b).bare.lvl = (Pt.two s a b).lvl from rfl]
    refine Nat.add_le_add_right ?_ _
    simp only [Pt.bare, Pt.words, tot_app]
    omega
  | «as» s a ia =>
    intro t
    have h1 := ia 0
    unfold Pt.at at h1 ⊢
    rw [tot_wrap, tot_wrap, show decide (a.bare.lvl < 0) = false by simp, show decide (a.lvl < 0) = false by simp] at h1
    have h2 : tot (wrapW (decide (a.bare.lvl < t)) a.bare.words) ≤ tot a.bare.words + 4 := by rw [tot_wrap]; split <;> omega
    have h3 : tot (Pt.as s a).words ≤ tot (wrapW (decide ((Pt.as s a).lvl < t)) (Pt.as s a).words) := by rw [tot_wrap]; omega
    have h4 : tot a.words ≤ tot (wrapW (decide (a.lvl < 4)) a.words) := by rw [tot_wrap]; omega
    have h5 : tot (Pt.as s a).words = tot (wrapW (decide (a.lvl < 4)) a.words) + (3 + (s.size + 1)) := by
      simp only [Pt.words, tot_app, tot_cons, tot_nil]
      rw [show sAs.size = 2 from rfl]
    show tot (wrapW (decide (a.bare.lvl < t)) a.bare.words) ≤ _
    simp only [Bool.false_eq_true, if_false] at h1
    omega
theorem bare_tot (p : Pt) : tot p.bare.words ≤ tot p.words := by
  have h := bare_tot_at p 0
  unfold Pt.at at h
  rw [tot_wrap, tot_wrap, show decide (p.bare.lvl < 0) = false by simp, show decide (p.lvl < 0) = false by simp] at h
  simpa using h
theorem okq_bare {p : Pt} (h : p.ok = true) : p.bare.okq = true := by
  simp [Pt.okq, ok_bare h, Pt.bare_plain]
theorem turned_fine {d : De} (h : d.fine = true) : d.turned.fine = true := by
  cases d with
  | noD => rfl
  | letD n t p =>
    simp only [De.fine, Bool.and_eq_true] at h
    simp [De.turned, Ba.fine, h.1, okq_bare h.2.2]
  | sayD p => exact okq_bare h
  | whenD p q =>
    simp only [De.fine, Bool.and_eq_true] at h
    simp [De.turned, Ba.fine, okq_bare h.1, okq_bare h.2]
theorem text_tot (ws : List ByteArray) (h : ws ≠ []) : (joinK ws ws.length).size + 1 = tot ws := by
  have h1 := joinK_exact ws ws.length (by cases ws with | nil => exact absurd rfl h | cons a l => simp) (Nat.le_refl _)
  rwa [List.take_length] at h1
/-- What a line is turned into is at most four wider. -/
theorem turned_size (d : De) : d.turned.text.size ≤ d.text.size + 4 := by
  cases d with
  | noD => exact Nat.zero_le _
  | letD n t p =>
    have h1 := text_tot (De.letD n t p).words (by simp [De.words])
    have h2 := text_tot (De.letD n t p).turned.words (by simp [De.turned, Ba.words])
    have h3 := bare_tot p
    unfold De.text Ba.text
    simp only [De.turned, De.words, Ba.words, tot_app, tot_cons, tot_nil] at h1 h2 ⊢
    rw [show sLet.size = 3 from rfl, show sColon.size = 1 from rfl, show sEq.size = 1 from rfl] at h1
    rw [show sEq.size = 1 from rfl] at h2
    omega
  | sayD p =>
    have h1 := text_tot (De.sayD p).words (by simp [De.words])
    have h2 := text_tot (De.sayD p).turned.words (by simp [De.turned, Ba.words])
    have h3 := bare_tot p
    unfold De.text Ba.text
    simp only [De.turned, De.words, Ba.words, tot_cons] at h1 h2 ⊢
    rw [show sSay.size = 3 from rfl] at h1
    rw [show sPrint.size = 5 from rfl] at h2
    omega
  | whenD p q =>
    have h1 := text_tot (De.whenD p q).words (by simp [De.words])
    have h2 := text_tot (De.whenD p q).turned.words (by simp [De.turned, Ba.words])
    have h3 := bare_tot p
    have h4 := bare_tot q
    unfold De.text Ba.text
    simp only [De.turned, De.words, Ba.words, List.cons_append, tot_app, tot_cons] at h1 h2 ⊢
    rw [show sWhen.size = 4 from rfl, show sSay.size = 3 from rfl] at h1
    rw [show sIf.size = 2 from rfl, show sColon.size = 1 from rfl, show sPrint.size = 5 from rfl] at h2
    omega
/-- A word that is no type, and none that a line with types begins with. -/
def freeW (s : ByteArray) : Prop := (s ≠ sAs ∧ s ≠ sInt ∧ s ≠ sBool) ∧ s ≠ sLet ∧ s ≠ sSay ∧ s ≠ sWhen
theorem name_free {s : ByteArray} (h : nameB s = true) : s ≠ sLet ∧ s ≠ sSay ∧ s ≠ sWhen := by
  have hh : heldB s = false := by simp only [nameB, Bool.and_eq_true, Bool.not_eq_true'] at h; exact h.2
  simp only [heldB, Bool.or_eq_false_iff, decide_eq_false_iff_not] at hh
  exact ⟨hh.1, hh.2.1, hh.2.2.1⟩
theorem hold_free {s : ByteArray} (h : hold s ≠ 0) : s ≠ sLet ∧ s ≠ sSay ∧ s ≠ sWhen := by
  refine ⟨?_, ?_, ?_⟩ <;> (rintro rfl; exact h (by decide))
theorem dec_free {s : ByteArray} (h : decL (L s) = true) : s ≠ sLet ∧ s ≠ sSay ∧ s ≠ sWhen := by
  refine ⟨?_, ?_, ?_⟩ <;> (rintro rfl; revert h; decide)
theorem wrap_free {b : Bool} {ws : List ByteArray} (h : ∀ s ∈ ws, s ≠ sLet ∧ s ≠ sSay ∧ s ≠ sWhen) : ∀ s ∈ wrapW b ws, s ≠ sLet ∧ s ≠ sSay ∧ s ≠ sWhen := by
  intro s hs
  unfold wrapW at hs
  split at hs
  · simp only [List.mem_append, List.mem_singleton] at hs
    rcases hs with (rfl | hs) | rfl
    · decide
    · exact h s hs
    · decide
  · exact h s hs
theorem bare_free (p : Pt) (h : p.fine = true) : ∀ s ∈ p.bare.words, s ≠ sLet ∧ s ≠ sSay ∧ s ≠ sWhen := by
  induction p with
  | num n =>
    simp only [Pt.fine, Bool.and_eq_true, decide_eq_true_eq] at h
    intro s hs
    simp only [Pt.bare, Pt.words, List.mem_singleton] at hs
    subst hs
    exact dec_free (decS_dec h.2)
  | name x =>
    intro s hs
    simp only [Pt.bare, Pt.words, List.mem_singleton] at hs
    subst hs
    exact name_free h
  | two x a b ia ib =>
    simp only [Pt.fine, Bool.and_eq_true, decide_eq_true_eq] at h
    intro s hs
    simp only [Pt.bare, Pt.words, List.mem_append, List.mem_singleton] at hs
    rcases hs with (hs | rfl) | hs
    · exact wrap_free (ia h.2.1) s hs
    · exact hold_free h.1
    · exact wrap_free (ib h.2.2) s hs
  | «as» x a ia =>
    simp only [Pt.fine, Bool.and_eq_true] at h
    exact ia h.2
theorem part_free {p : Pt} (h : p.ok = true) : ∀ s ∈ p.bare.words, freeW s := fun s hs => ⟨plainW_iff.1 (bare_plain p (ok_fine h) s hs), bare_free p (ok_fine h) s hs⟩
theorem turned_free {d : De} (h : d.fine = true) : ∀ s ∈ d.turned.words, freeW s := by
  intro s hs
  cases d with
  | noD => simp [De.turned, Ba.words] at hs
  | letD n t p =>
    simp only [De.fine, Bool.and_eq_true] at h
    simp only [De.turned, Ba.words, List.mem_append, List.mem_cons, List.not_mem_nil, or_false] at hs
    rcases hs with (rfl | rfl) | hs
    · exact ⟨plainW_iff.1 (name_plain h.1), name_free h.1⟩
    · unfold freeW; decide
    · exact part_free h.2.2 s hs
  | sayD p =>
    simp only [De.turned, Ba.words, List.mem_cons] at hs
    rcases hs with rfl | hs
    · unfold freeW; decide
    · exact part_free (p := p) h s hs
  | whenD p q =>
    simp only [De.fine, Bool.and_eq_true] at h
    simp only [De.turned, Ba.words, List.cons_append, List.mem_append, List.mem_cons] at hs
    rcases hs with rfl | hs | rfl | rfl | hs
    · unfold freeW; decide
    · exact part_free h.1 s hs
    · unfold freeW; decide
    · unfold freeW; decide
    · exact part_free h.2 s hs
theorem turned_kind {d : De} (h : d.fine = true) : ∀ s ∈ d.turned.words, kindL (L s) ≠ 0 := by
  intro s hs
  cases d with
  | noD => simp [De.turned, Ba.words] at hs
  | letD n t p =>
    simp only [De.fine, Bool.and_eq_true] at h
    simp only [De.turned, Ba.words, List.mem_append, List.mem_cons, List.not_mem_nil, or_false] at hs
    rcases hs with (rfl | rfl) | hs
    · exact kind_words (.name s) h.1 s (by simp [Pt.words])
    · decide
    · exact kind_words p.bare (ok_fine (ok_bare h.2.2)) s hs
  | sayD p =>
    simp only [De.turned, Ba.words, List.mem_cons] at hs
    rcases hs with rfl | hs
    · decide
    · exact kind_words p.bare (ok_fine (ok_bare (p := p) h)) s hs
  | whenD p q =>
    simp only [De.fine, Bool.and_eq_true] at h
    simp only [De.turned, Ba.words, List.cons_append, List.mem_append, List.mem_cons] at hs
    rcases hs with rfl | hs | rfl | rfl | hs
    · decide
    · exact kind_words p.bare (ok_fine (ok_bare h.1)) s hs
    · decide
    · decide
    · exact kind_words q.bare (ok_fine (ok_bare h.2)) s hs
/-- What a line that is ok is turned into is ok, and its text's words are its words. -/
theorem turned_is {s : St} {d : De} (h : doS s = some d) : boS (turnS s) = some d.turned ∧ d.turned.text.size ≤ d.text.size + 4 ∧ toksR d.turned.text = some (joinToks d.turned.words d.turned.words.length) := by
  obtain ⟨h1, h2, h3⟩ := doS_some h
  have h4 := turned_size d
  have h5 : d.turned.text.size ≤ 120 := by omega
  rw [turnS_some h]
  exact ⟨boS_br (turned_fine h1) h5, h4, toksR_join _ (turned_kind h1) h5⟩
theorem turned_has {s : St} {d : De} (h : doS s = some d) : (turnS s).kind = s.kind ∧ (turnS s).name = s.name := by
  obtain ⟨_, h2, _⟩ := doS_some h
  rw [turnS_some h]
  subst h2
  cases d <;> exact ⟨rfl, rfl⟩
end Go.Proofs.YtfknelkbdoiokaaGreatDoor
