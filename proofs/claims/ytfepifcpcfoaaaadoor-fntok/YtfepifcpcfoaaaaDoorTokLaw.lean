/-
  Plain mathematics of the words of lines: where they are, of which kinds, and what spaces change.
-/
import Derived.Test.YtfepifcpcfoaaaaDoorTokJoin
import Derived.Test.YtfepifcpcfoaaaaDoorTokDraw
namespace Go.Proofs.YtfepifcpcfoaaaaDoor
open Go.RowKit

def shiftK (d : Nat) (t : Tk) : Tk := { t with col := t.col + d }
def shiftV (d : Nat) (x : Tv) : Tv := (x.1, x.2.1, x.2.2 + (d : Int))
theorem tkV_shift (d : Nat) (t : Tk) : tkV (shiftK d t) = shiftV d (tkV t) := by simp [tkV, shiftK, shiftV]
theorem toks_shiftK (d : Nat) (l : List UInt8) (col : Nat) : toks (col + d) l = (toks col l).map (·.map (shiftK d)) := toks_shift d l col
theorem toks_cols (l : List UInt8) : ∀ col ts, toks col l = some ts → ∀ t ∈ ts, t.col + t.s.length ≤ col + l.length ∧ t.kind = kindL t.s ∧ kindL t.s ≠ 0 ∧ 1 ≤ t.s.length := by
  induction hn : l.length using Nat.strongRecOn generalizing l with
  | ind n ih =>
    intro col ts h t ht
    rcases toks_step l col ts h with ⟨rfl, _⟩ | ⟨m, w, r, ts', h1, rfl, h3, h4, h5⟩
    · cases ht
    · have hw : 1 ≤ w.length := by
        have := h5.ne
        cases w with
        | nil => exact absurd rfl this
        | cons c t => simp
      have hl : l.length = m + (w.length + r.length) := by rw [h1]; simp
      rcases List.mem_cons.1 ht with rfl | ht
      · exact ⟨by simp only; omega, rfl, h4, hw⟩
      · have := ih r.length (by omega) r rfl _ _ h3 t ht
        exact ⟨by omega, this.2⟩
theorem toksR_cols {s : ByteArray} {ts : List Tk} (h : toksR s = some ts) : ∀ t ∈ ts, t.col + t.s.length ≤ 120 ∧ t.kind = kindL t.s ∧ kindL t.s ≠ 0 ∧ 1 ≤ t.s.length := by
  unfold toksR at h
  split at h
  · rename_i hs
    intro t ht
    have := toks_cols _ _ _ h t ht
    rw [L_length] at this
    exact ⟨by omega, this.2⟩
  · cases h
/-- The words of two lines with a space between. -/
theorem toksR_cat (a b : ByteArray) : toksR (a ++ ⟨#[32]⟩ ++ b) = if a.size + b.size < 120 then (toksR a).bind (fun x => (toksR b).map (fun y => x ++ y.map (shiftK (a.size + 1)))) else none := by
  have hsz : (a ++ ⟨#[32]⟩ ++ b).size = a.size + 1 + b.size := by rw [ByteArray.size_append, ByteArray.size_append]; rfl
  by_cases h : a.size + b.size < 120
  · rw [if_pos h, toksR_ok (by omega), toksR_ok (s := a) (by omega), toksR_ok (s := b) (by omega), L_append, L_append]
    show toks 0 (L a ++ [32] ++ L b) = _
    rw [List.append_assoc, List.singleton_append, toks_cat, L_length]
    have h2 := toks_shiftK (a.size + 1) (L b) 0
    rw [show 0 + a.size + 1 = 0 + (a.size + 1) by omega, h2]
    cases toks 0 (L a) with
    | none => rfl
    | some x => cases toks 0 (L b) <;> rfl
  · rw [if_neg h, toksR_big (by omega)]
theorem toksR_pad (p s : ByteArray) (n : Nat) (hp : L p = List.replicate n 32) (hs : n + s.size ≤ 120) : toksR (p ++ s) = (toksR s).map (·.map (shiftK n)) := by
  have hps : p.size = n := by rw [← L_length, hp, List.length_replicate]
  rw [toksR_ok (by rw [ByteArray.size_append]; omega), toksR_ok (by omega), L_append, hp, toks_pad]
  exact toks_shiftK n (L s) 0
theorem toksR_behind (p s : ByteArray) (n : Nat) (hp : L p = List.replicate n 32) (hs : n + s.size ≤ 120) : toksR (s ++ p) = toksR s := by
  have hps : p.size = n := by rw [← L_length, hp, List.length_replicate]
  rw [toksR_ok (by rw [ByteArray.size_append]; omega), toksR_ok (by omega), L_append, hp, toks_behind]
end Go.Proofs.YtfepifcpcfoaaaaDoor
