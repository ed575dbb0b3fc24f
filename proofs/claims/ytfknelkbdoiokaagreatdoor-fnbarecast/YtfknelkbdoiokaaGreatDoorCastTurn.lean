/-
  Plain mathematics: a line that is cast, or told with another type, is turned into the same. No Go.
-/
import Derived.Test.YtfknelkbdoiokaaGreatDoorGP
namespace Go.Proofs.YtfknelkbdoiokaaGreatDoor

def sIntL : ByteArray := ⟨#[105, 110, 116]⟩
def sBoolL : ByteArray := ⟨#[98, 111, 111, 108]⟩
/-- What is reckoned, as of a type. -/
def castS (s : St) : St := ⟨s.kind, s.name, s.typ, .mk 4 0 sIntL [s.e], s.t⟩
/-- The line that lets a name be something, told with the type bool. -/
def retypeS (s : St) : St := if s.kind = 1 then ⟨s.kind, s.name, sBoolL, s.e, s.t⟩ else s
theorem as_inj {p q : Pt} (h : p.ex = .mk 4 0 sIntL [q.ex]) : p = .as sIntL q := Pt.ex_inj _ _ h
theorem cast_turn {s : St} {d e : De} (hk : s.kind ≠ 0) (hd : doS s = some d) (he : doS (castS s) = some e) : turnS (castS s) = turnS s := by
  rw [turnS_some hd, turnS_some he]
  obtain ⟨_, h1, _⟩ := doS_some hd
  obtain ⟨_, h2, _⟩ := doS_some he
  subst h1
  cases d with
  | noD => exact absurd rfl hk
  | letD n t p =>
    cases e with
    | letD n' t' p' =>
      have ha := as_inj (congrArg St.e h2)
      have hn : n' = n := congrArg St.name h2
      subst ha hn
      rfl
    | noD => exact absurd (show (0 : Int) = 1 from congrArg St.kind h2) (by decide)
    | sayD p' => exact absurd (show (2 : Int) = 1 from congrArg St.kind h2) (by decide)
    | whenD p' q' => exact absurd (show (3 : Int) = 1 from congrArg St.kind h2) (by decide)
  | sayD p =>
    cases e with
    | sayD p' =>
      have ha := as_inj (congrArg St.e h2)
      subst ha
      rfl
    | noD => exact absurd (show (0 : Int) = 2 from congrArg St.kind h2) (by decide)
    | letD n' t' p' => exact absurd (show (1 : Int) = 2 from congrArg St.kind h2) (by decide)
    | whenD p' q' => exact absurd (show (3 : Int) = 2 from congrArg St.kind h2) (by decide)
  | whenD p q =>
    cases e with
    | whenD p' q' =>
      have ha := as_inj (congrArg St.e h2)
      have hb : q' = q := Pt.ex_inj _ _ (congrArg St.t h2)
      subst ha hb
      rfl
    | noD => exact absurd (show (0 : Int) = 3 from congrArg St.kind h2) (by decide)
    | letD n' t' p' => exact absurd (show (1 : Int) = 3 from congrArg St.kind h2) (by decide)
    | sayD p' => exact absurd (show (2 : Int) = 3 from congrArg St.kind h2) (by decide)
theorem retype_turn {s : St} {d e : De} (hd : doS s = some d) (he : doS (retypeS s) = some e) : turnS (retypeS s) = turnS s := by
  by_cases hk : s.kind = 1
  · rw [turnS_some hd, turnS_some he]
    obtain ⟨_, h1, _⟩ := doS_some hd
    obtain ⟨_, h2, _⟩ := doS_some he
    unfold retypeS at h2
    rw [if_pos hk] at h2
    subst h1
    cases d with
    | noD => exact absurd (show (0 : Int) = 1 from hk) (by decide)
    | sayD p => exact absurd (show (2 : Int) = 1 from hk) (by decide)
    | whenD p q => exact absurd (show (3 : Int) = 1 from hk) (by decide)
    | letD n t p =>
      cases e with
      | letD n' t' p' =>
        have hn : n' = n := congrArg St.name h2
        have hp : p' = p := Pt.ex_inj _ _ (congrArg St.e h2)
        subst hn hp
        rfl
      | noD => exact absurd (show (0 : Int) = 1 from congrArg St.kind h2) (by decide)
      | sayD p' => exact absurd (show (2 : Int) = 1 from congrArg St.kind h2) (by decide)
      | whenD p' q' => exact absurd (show (3 : Int) = 1 from congrArg St.kind h2) (by decide)
  · unfold retypeS
    rw [if_neg hk]
end Go.Proofs.YtfknelkbdoiokaaGreatDoor
