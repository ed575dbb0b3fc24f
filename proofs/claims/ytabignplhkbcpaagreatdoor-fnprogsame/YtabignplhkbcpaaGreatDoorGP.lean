/-
  DeedMath, BaMath, OfMath: these texts one behind the other, as a claim holds at most 60 files.
-/
import Derived.Test.YtabignplhkbcpaaGreatDoorGA
import Derived.Test.YtabignplhkbcpaaGreatDoorJoinTok
namespace Go.Proofs.YtabignplhkbcpaaGreatDoor

def sColon : ByteArray := ⟨#[58]⟩
def sEq : ByteArray := ⟨#[61]⟩
/-- A line that is ok. -/
inductive De where
  | noD
  | letD (n t : ByteArray) (p : Pt)
  | sayD (p : Pt)
  | whenD (p q : Pt)
def De.st : De → St
  | .noD => ⟨0, ByteArray.empty, ByteArray.empty, Ex.zero, Ex.zero⟩
  | .letD n t p => ⟨1, n, t, p.ex, Ex.zero⟩
  | .sayD p => ⟨2, ByteArray.empty, ByteArray.empty, p.ex, Ex.zero⟩
  | .whenD p q => ⟨3, ByteArray.empty, ByteArray.empty, p.ex, q.ex⟩
def De.fine : De → Bool
  | .noD => true
  | .letD n t p => nameB n && (typeB t && p.ok)
  | .sayD p => p.ok
  | .whenD p q => p.ok && q.ok
def De.words : De → List ByteArray
  | .noD => []
  | .letD n t p => [sLet, n, sColon, t, sEq] ++ p.words
  | .sayD p => sSay :: p.words
  | .whenD p q => sWhen :: p.words ++ sSay :: q.words
def De.text (d : De) : ByteArray := joinK d.words d.words.length
/-- The deed that it may be, of its kind; it may have more than a deed of that kind. -/
def deS (s : St) : Option De :=
  if s.kind = 0 then some .noD
  else if s.kind = 1 then (if nameB s.name = true ∧ typeB s.typ = true then (okP s.e).map (fun p => .letD s.name s.typ p) else none)
  else if s.kind = 2 then (okP s.e).map (fun p => .sayD p)
  else if s.kind = 3 then (okP s.e).bind (fun p => (okP s.t).map (fun q => .whenD p q))
  else none
/-- The deed that it is. -/
def doS (s : St) : Option De := (deS s).bind fun d => if sameS d.st s = true ∧ d.text.size ≤ 116 then some d else none
theorem deS_fine {s : St} {d : De} (h : deS s = some d) : d.fine = true := by
  unfold deS at h
  split at h
  · cases h; rfl
  · split at h
    · split at h
      · rename_i hh
        obtain ⟨p, hp, rfl⟩ := Option.map_eq_some_iff.1 h
        simp [De.fine, hh.1, hh.2, (okP_some hp).2]
      · cases h
    · split at h
      · obtain ⟨p, hp, rfl⟩ := Option.map_eq_some_iff.1 h
        exact (okP_some hp).2
      · split at h
        · obtain ⟨p, hp, h2⟩ := Option.bind_eq_some_iff.1 h
          obtain ⟨q, hq, rfl⟩ := Option.map_eq_some_iff.1 h2
          simp [De.fine, (okP_some hp).2, (okP_some hq).2]
        · cases h
theorem doS_some {s : St} {d : De} (h : doS s = some d) : d.fine = true ∧ d.st = s ∧ d.text.size ≤ 116 := by
  unfold doS at h
  obtain ⟨x, hx, h2⟩ := Option.bind_eq_some_iff.1 h
  split at h2
  · rename_i hh
    cases h2
    exact ⟨deS_fine hx, (sameS_iff _ _).1 hh.1, hh.2⟩
  · cases h2
theorem deS_st {d : De} (h : d.fine = true) : deS d.st = some d := by
  cases d with
  | noD => rfl
  | letD n t p =>
    simp only [De.fine, Bool.and_eq_true] at h
    simp [deS, De.st, h.1, h.2.1, okP_ex h.2.2]
  | sayD p => simp [deS, De.st, okP_ex (show p.ok = true from h)]
  | whenD p q =>
    simp only [De.fine, Bool.and_eq_true] at h
    simp [deS, De.st, okP_ex h.1, okP_ex h.2]
theorem doS_st {d : De} (h : d.fine = true) (hw : d.text.size ≤ 116) : doS d.st = some d := by
  unfold doS
  rw [deS_st h]
  simp [sameS_self, hw]
/-- A bound of how many words a deed has, and of what they are. -/
theorem De.words_length {d : De} (h : d.fine = true) : d.words.length ≤ 200 := by
  have aux : ∀ {p : Pt}, p.ok = true → p.words.length ≤ 72 := by
    intro p hp
    have h1 := p.words_length
    simp only [Pt.ok, Bool.and_eq_true, decide_eq_true_eq] at hp
    have := hp.2.2
    omega
  cases d with
  | noD => simp [De.words]
  | letD n t p =>
    simp only [De.fine, Bool.and_eq_true] at h
    have := aux h.2.2
    simp only [De.words, List.length_append, List.length_cons, List.length_nil]; omega
  | sayD p =>
    have := aux (p := p) h
    simp only [De.words, List.length_cons]; omega
  | whenD p q =>
    simp only [De.fine, Bool.and_eq_true] at h
    have h1 := aux h.1
    have h2 := aux h.2
    simp only [De.words, List.cons_append, List.length_append, List.length_cons]; omega
end Go.Proofs.YtabignplhkbcpaaGreatDoor

namespace Go.Proofs.YtabignplhkbcpaaGreatDoor

/-- There are no types in it. -/
def Pt.plain : Pt → Bool
  | .num _ => true
  | .name _ => true
  | .two _ a b => a.plain && b.plain
  | .as _ _ => false
theorem Pt.plain_bare (p : Pt) : p.plain = true → p.bare = p := by
  induction p with
  | num n => intro _; rfl
  | name s => intro _; rfl
  | two s a b ia ib =>
    intro h
    simp only [Pt.plain, Bool.and_eq_true] at h
    simp only [Pt.bare, ia h.1, ib h.2]
  | «as» s a ia => intro h; cases h
theorem Pt.bare_plain (p : Pt) : p.bare.plain = true := by
  induction p with
  | num n => rfl
  | name s => rfl
  | two s a b ia ib => simp [Pt.bare, Pt.plain, ia, ib]
  | «as» s a ia => exact ia
theorem Pt.same_bare (p : Pt) : sameE p.bare.ex p.ex = p.plain := by
  cases h : p.plain with
  | true => rw [Pt.plain_bare p h]; exact sameE_self _
  | false =>
    rw [Bool.eq_false_iff]
    intro h2
    have h3 := Pt.ex_inj _ _ ((sameE_iff _ _).1 h2)
    rw [← h3, Pt.bare_plain] at h
    cases h
def Pt.okq (p : Pt) : Bool := p.ok && p.plain
theorem Pt.okq_ok {p : Pt} (h : p.okq = true) : p.ok = true := by simp only [Pt.okq, Bool.and_eq_true] at h; exact h.1
/-- The part that it is, if that has no types in it. -/
def okQ (e : Ex) : Option Pt := (okP e).bind fun p => if p.plain = true then some p else none
theorem okQ_some {e : Ex} {p : Pt} (h : okQ e = some p) : e = p.ex ∧ p.okq = true := by
  unfold okQ at h
  obtain ⟨q, h1, h2⟩ := Option.bind_eq_some_iff.1 h
  split at h2
  · rename_i hp
    cases h2
    exact ⟨(okP_some h1).1, by simp [Pt.okq, (okP_some h1).2, hp]⟩
  · cases h2
theorem okQ_ex {p : Pt} (h : p.okq = true) : okQ p.ex = some p := by
  simp only [Pt.okq, Bool.and_eq_true] at h
  unfold okQ
  rw [okP_ex h.1]
  simp [h.2]

/-- A line without types that is ok. -/
inductive Ba where
  | noB
  | setB (n : ByteArray) (p : Pt)
  | prB (p : Pt)
  | ifB (p q : Pt)
def Ba.br : Ba → Br
  | .noB => ⟨0, ByteArray.empty, Ex.zero, Ex.zero⟩
  | .setB n p => ⟨1, n, p.ex, Ex.zero⟩
  | .prB p => ⟨2, ByteArray.empty, p.ex, Ex.zero⟩
  | .ifB p q => ⟨3, ByteArray.empty, p.ex, q.ex⟩
def Ba.fine : Ba → Bool
  | .noB => true
  | .setB n p => nameB n && p.okq
  | .prB p => p.okq
  | .ifB p q => p.okq && q.okq
def Ba.words : Ba → List ByteArray
  | .noB => []
  | .setB n p => [n, sEq] ++ p.words
  | .prB p => sPrint :: p.words
  | .ifB p q => sIf :: p.words ++ (sColon :: sPrint :: q.words)
def Ba.text (d : Ba) : ByteArray := joinK d.words d.words.length
/-- The line that it may be, of its kind; it may have more than a line of that kind. -/
def baS (s : Br) : Option Ba :=
  if s.kind = 0 then some .noB
  else if s.kind = 1 then (if nameB s.name = true then (okQ s.e).map (fun p => .setB s.name p) else none)
  else if s.kind = 2 then (okQ s.e).map (fun p => .prB p)
  else if s.kind = 3 then (okQ s.e).bind (fun p => (okQ s.t).map (fun q => .ifB p q))
  else none
/-- The line that it is. -/
def boS (s : Br) : Option Ba := (baS s).bind fun d => if sameB d.br s = true ∧ d.text.size ≤ 120 then some d else none
theorem baS_fine {s : Br} {d : Ba} (h : baS s = some d) : d.fine = true := by
  unfold baS at h
  split at h
  · cases h; rfl
  · split at h
    · split at h
      · rename_i hh
        obtain ⟨p, hp, rfl⟩ := Option.map_eq_some_iff.1 h
        simp [Ba.fine, hh, (okQ_some hp).2]
      · cases h
    · split at h
      · obtain ⟨p, hp, rfl⟩ := Option.map_eq_some_iff.1 h
        exact (okQ_some hp).2
      · split at h
        · obtain ⟨p, hp, h2⟩ := Option.bind_eq_some_iff.1 h
          obtain ⟨q, hq, rfl⟩ := Option.map_eq_some_iff.1 h2
          simp [Ba.fine, (okQ_some hp).2, (okQ_some hq).2]
        · cases h
theorem boS_some {s : Br} {d : Ba} (h : boS s = some d) : d.fine = true ∧ d.br = s ∧ d.text.size ≤ 120 := by
  unfold boS at h
  obtain ⟨x, hx, h2⟩ := Option.bind_eq_some_iff.1 h
  split at h2
  · rename_i hh
    cases h2
    exact ⟨baS_fine hx, (sameB_iff _ _).1 hh.1, hh.2⟩
  · cases h2
theorem baS_br {d : Ba} (h : d.fine = true) : baS d.br = some d := by
  cases d with
  | noB => rfl
  | setB n p =>
    simp only [Ba.fine, Bool.and_eq_true] at h
    simp [baS, Ba.br, h.1, okQ_ex h.2]
  | prB p => simp [baS, Ba.br, okQ_ex (show p.okq = true from h)]
  | ifB p q =>
    simp only [Ba.fine, Bool.and_eq_true] at h
    simp [baS, Ba.br, okQ_ex h.1, okQ_ex h.2]
theorem boS_br {d : Ba} (h : d.fine = true) (hw : d.text.size ≤ 120) : boS d.br = some d := by
  unfold boS
  rw [baS_br h]
  simp [sameB_self, hw]
/-- A bound of how many words a line has, and of what they are. -/
theorem Ba.words_length {d : Ba} (h : d.fine = true) : d.words.length ≤ 200 := by
  have aux : ∀ {p : Pt}, p.okq = true → p.words.length ≤ 72 := by
    intro p hq
    have hp := Pt.okq_ok hq
    have h1 := p.words_length
    simp only [Pt.ok, Bool.and_eq_true, decide_eq_true_eq] at hp
    have := hp.2.2
    omega
  cases d with
  | noB => simp [Ba.words]
  | setB n p =>
    simp only [Ba.fine, Bool.and_eq_true] at h
    have := aux h.2
    simp only [Ba.words, List.length_append, List.length_cons, List.length_nil]; omega
  | prB p =>
    have := aux (p := p) h
    simp only [Ba.words, List.length_cons]; omega
  | ifB p q =>
    simp only [Ba.fine, Bool.and_eq_true] at h
    have h1 := aux h.1
    have h2 := aux h.2
    simp only [Ba.words, List.cons_append, List.length_append, List.length_cons]; omega
end Go.Proofs.YtabignplhkbcpaaGreatDoor

namespace Go.Proofs.YtabignplhkbcpaaGreatDoor

/-- What a line that is ok is turned into. -/
def De.turned : De → Ba
  | .noD => .noB
  | .letD n _ p => .setB n p.bare
  | .sayD p => .prB p.bare
  | .whenD p q => .ifB p.bare q.bare
def Br.zero : Br := ⟨0, ByteArray.empty, Ex.zero, Ex.zero⟩
/-- What a line is turned into; nothing, if it is not ok. -/
def turnS (s : St) : Br := match doS s with
  | some d => d.turned.br
  | none => Br.zero
theorem turnS_some {s : St} {d : De} (h : doS s = some d) : turnS s = d.turned.br := by unfold turnS; rw [h]
theorem turnS_none {s : St} (h : doS s = none) : turnS s = Br.zero := by unfold turnS; rw [h]
end Go.Proofs.YtabignplhkbcpaaGreatDoor
