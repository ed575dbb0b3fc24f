/-
  Plain mathematics of lines that are ok: deeds, their words, and which line is one. No Go.
-/
import Derived.Test.YtkllhnhinealfaaGreatDoorGA
import Derived.Test.YtkllhnhinealfaaGreatDoorJoinTok
namespace Go.Proofs.YtkllhnhinealfaaGreatDoor

def sColon : ByteArray := ⟨#[58]⟩
def sEq : ByteArray := ⟨#[61]⟩
/-- A line that is ok. -/
inductive De where
  | noD
  | letD (n t : ByteArray) (p : Pt)
  | sayD (p : Pt)
  | whenD (p q : Pt)
def De.st : De → St
  | .noD => ⟨0, ByteArray.empty, ByteArray.empty, Ex.zero, Ex.zero⟩
  | .letD n t p => ⟨1, n, t, p.ex, Ex.zero⟩
  | .sayD p => ⟨2, ByteArray.empty, ByteArray.empty, p.ex, Ex.zero⟩
  | .whenD p q => ⟨3, ByteArray.empty, ByteArray.empty, p.ex, q.ex⟩
def De.fine : De → Bool
  | .noD => true
  | .letD n t p => nameB n && (typeB t && p.ok)
  | .sayD p => p.ok
  | .whenD p q => p.ok && q.ok
def De.words : De → List ByteArray
  | .noD => []
  | .letD n t p => [sLet, n, sColon, t, sEq] ++ p.words
  | .sayD p => sSay :: p.words
  | .whenD p q => sWhen :: p.words ++ sSay :: q.words
def De.text (d : De) : ByteArray := joinK d.words d.words.length
/-- The deed that it may be, of its kind; it may have more than a deed of that kind. -/
def deS (s : St) : Option De :=
  if s.kind = 0 then some .noD
  else if s.kind = 1 then (if nameB s.name = true ∧ typeB s.typ = true then (okP s.e).map (fun p => .letD s.name s.typ p) else none)
  else if s.kind = 2 then (okP s.e).map (fun p => .sayD p)
  else if s.kind = 3 then (okP s.e).bind (fun p => (okP s.t).map (fun q => .whenD p q))
  else none
/-- The deed that it is. -/
def doS (s : St) : Option De := (deS s).bind fun d => if sameS d.st s = true ∧ d.text.size ≤ 116 then some d else none
theorem deS_fine {s : St} {d : De} (h : deS s = some d) : d.fine = true := by
  unfold deS at h
  split at h
  · cases h; rfl
  · split at h
    · split at h
      · rename_i hh
        obtain ⟨p, hp, rfl⟩ := Option.map_eq_some_iff.1 h
        simp [De.fine, hh.1, hh.2, (okP_some hp).2]
      · cases h
    · split at h
      · obtain ⟨p, hp, rfl⟩ := Option.map_eq_some_iff.1 h
        exact (okP_some hp).2
      · split at h
        · obtain ⟨p, hp, h2⟩ := Option.bind_eq_some_iff.1 h
          obtain ⟨q, hq, rfl⟩ := Option.map_eq_some_iff.1 h2
          simp [De.fine, (okP_some hp).2, (okP_some hq).2]
        · cases h
theorem doS_some {s : St} {d : De} (h : doS s = some d) : d.fine = true ∧ d.st = s ∧ d.text.size ≤ 116 := by
  unfold doS at h
  obtain ⟨x, hx, h2⟩ := Option.bind_eq_some_iff.1 h
  split at h2
  · rename_i hh
    cases h2
    exact ⟨deS_fine hx, (sameS_iff _ _).1 hh.1, hh.2⟩
  · cases h2
theorem deS_st {d : De} (h : d.fine = true) : deS d.st = some d := by
  cases d with
  | noD => rfl
  | letD n t p =>
    simp only [De.fine, Bool.and_eq_true] at h
    simp [deS, De.st, h.1, h.2.1, okP_ex h.2.2]
  | sayD p => simp [deS, De.st, okP_ex (show p.ok = true from h)]
  | whenD p q =>
    simp only [De.fine, Bool.and_eq_true] at h
    simp [deS, De.st, okP_ex h.1, okP_ex h.2]
theorem doS_st {d : De} (h : d.fine = true) (hw : d.text.size ≤ 116) : doS d.st = some d := by
  unfold doS
  rw [deS_st h]
  simp [sameS_self, hw]
/-- A bound of how many words a deed has, and of what they are. -/
theorem De.words_length {d : De} (h : d.fine = true) : d.words.length ≤ 200 := by
  have aux : ∀ {p : Pt}, p.ok = true → p.words.length ≤ 72 := by
    intro p hp
    have h1 := p.words_length
    simp only [Pt.ok, Bool.and_eq_true, decide_eq_true_eq] at hp
    have := hp.2.2
    omega
  cases d with
  | noD => simp [De.words]
  | letD n t p =>
    simp only [De.fine, Bool.and_eq_true] at h
    have := aux h.2.2
    simp only [De.words, List.length_append, List.length_cons, List.length_nil]; omega
  | sayD p =>
    have := aux (p := p) h
    simp only [De.words, List.length_cons]; omega
  | whenD p q =>
    simp only [De.fine, Bool.and_eq_true] at h
    have h1 := aux h.1
    have h2 := aux h.2
    simp only [De.words, List.cons_append, List.length_append, List.length_cons]; omega
end Go.Proofs.YtkllhnhinealfaaGreatDoor
