/-
  The contracts of the model's draws of words and lines: l3Some, l3Bent, l12Many, DrawTokLine, DrawTokText, DrawTokOk, DrawTokKind, DrawTokSame, for all codes.
-/
import Derived.Test.YtkfnbakhbbcfcaaGreatDoorRd
import Derived.Test.YtkfnbakhbbcfcaaGreatDoorSpecToks
namespace Go.Proofs.YtkfnbakhbbcfcaaGreatDoor
open Go.RowKit

def someW : List ByteArray := [⟨#[108, 101, 116]⟩, ⟨#[115, 97, 121]⟩, ⟨#[120]⟩, ⟨#[121]⟩, ⟨#[97, 115]⟩, ⟨#[105, 110, 116]⟩, ⟨#[49]⟩, ⟨#[50, 48]⟩, ⟨#[48]⟩, ⟨#[43]⟩, ⟨#[42]⟩, ⟨#[40]⟩, ⟨#[41]⟩, ⟨#[58]⟩, ⟨#[61]⟩, ⟨#[60]⟩, ⟨#[45]⟩, ⟨#[49, 48, 48, 48, 48, 48, 48]⟩]
def bentW : List ByteArray := [⟨#[]⟩, ⟨#[88]⟩, ⟨#[48, 49]⟩, ⟨#[97, 98, 99, 100, 101, 102, 103, 104, 105]⟩, ⟨#[49, 48, 48, 48, 48, 48, 49]⟩, ⟨#[43, 45]⟩, ⟨#[63]⟩, ⟨#[97, 49]⟩, ⟨#[45, 49]⟩]
def aheadW : List ByteArray := [⟨#[]⟩, ⟨#[]⟩, ⟨#[32]⟩]
def sepW : List ByteArray := [⟨#[32]⟩, ⟨#[32]⟩, ⟨#[32, 32]⟩, ⟨#[]⟩]
theorem someW_ok : ∀ s ∈ someW, kindL (L s) ≠ 0 ∧ 1 ≤ s.size ∧ s.size ≤ 7 := by
  unfold someW
  simp only [List.mem_cons, List.not_mem_nil, or_false, forall_eq_or_imp, forall_eq]
  decide
theorem bentW_ok : ∀ s ∈ bentW, s.size ≤ 9 := by decide
theorem aheadW_ok : ∀ s ∈ aheadW, s.size ≤ 1 := by decide
theorem sepW_ok : ∀ s ∈ sepW, s.size ≤ 2 := by decide

/-- A text was drawn by a reader, after at most k readings. -/
def Drew (ok : ByteArray → Prop) (k : Nat) (w : World) (B g : Nat) (A : Option Addr) (len cap p : Nat) (e : Ending) (w' : World) : Prop :=
  ∃ s : ByteArray, ok s ∧ e = .returned (.string s) ∧ Read w B g A len cap p k w'

set_option maxRecDepth 100000 in
set_option maxHeartbeats 1000000 in
theorem l3Some_any (B g : Nat) (A : Option Addr) (len cap p : Nat) (w : World) (hr : Rd w B g A len cap p) (hp : p ≤ 2 ^ 20) :
    Calls Tryz.prog 137 #[.pointer (some ⟨g, 0, none⟩)] w (Drew (fun s => kindL (L s) ≠ 0 ∧ 1 ≤ s.size ∧ s.size ≤ 7) 1 w B g A len cap p) := by
  go_enter Tryz.func137, Tryz.ntmps137
  go_wp2_with fail
  refine (of_any B g A len cap p w.heap.size 18 18 someW _ (hr.alloc _) (by omega) rfl (by omega) (by omega) (by simp) (by have := hr.lt; omega) ?_).mono ?_
  · intro j hj
    rw [cell_made]
    match j, hj with
    | 0, _ => rfl
    | 1, _ => rfl
    | 2, _ => rfl
    | 3, _ => rfl
    | 4, _ => rfl
    | 5, _ => rfl
    | 6, _ => rfl
    | 7, _ => rfl
    | 8, _ => rfl
    | 9, _ => rfl
    | 10, _ => rfl
    | 11, _ => rfl
    | 12, _ => rfl
    | 13, _ => rfl
    | 14, _ => rfl
    | 15, _ => rfl
    | 16, _ => rfl
    | 17, _ => rfl
    | i + 18, h => exact absurd h (by show ¬ i + 18 < 18; omega)
  · rintro e w2 ⟨u, hu, rfl, q2, hq3, hq4, hrd2, hgr2⟩
    obtain ⟨z, hz, rfl⟩ := List.mem_map.1 hu
    have HZ := Lib.hid (someW_ok z hz)
    clear hz hu
    unfold strV
    go_wp2_with fail
    go_ret
    exact ⟨z, HZ.out, rfl, q2, hq3, hq4, hrd2, grown_trans (grown_alloc (grown_refl w (some g)) _) hgr2⟩

set_option maxRecDepth 100000 in
set_option maxHeartbeats 1000000 in
theorem l3Bent_any (B g : Nat) (A : Option Addr) (len cap p : Nat) (w : World) (hr : Rd w B g A len cap p) (hp : p ≤ 2 ^ 19) :
    Calls Tryz.prog 89 #[.pointer (some ⟨g, 0, none⟩)] w (Drew (fun s => s.size ≤ 9) 2 w B g A len cap p) := by
  have HP := Lib.hid (pick_any B g A len cap p 8 w hr (by omega) (by omega) (by omega))
  have hbg := hr.2.1
  clear hr
  go_enter Tryz.func89, Tryz.ntmps89
  go_wp2_with fail
  refine HP.out.mono ?_
  rintro e w1 ⟨v, hv, rfl, q1, hq1, hq2, hrd1, hgr1⟩
  by_cases h0 : v = 0
  · subst h0
    go_wp2_with fail
    refine (of_any B g A len cap q1 w1.heap.size 9 9 bentW _ (hrd1.alloc _) (by omega) rfl (by omega) (by omega) (by simp) (by have := hrd1.lt; omega) ?_).mono ?_
    · intro j hj
      rw [cell_made]
      match j, hj with
      | 0, _ => rfl
      | 1, _ => rfl
      | 2, _ => rfl
      | 3, _ => rfl
      | 4, _ => rfl
      | 5, _ => rfl
      | 6, _ => rfl
      | 7, _ => rfl
      | 8, _ => rfl
    · rintro e w2 ⟨u, hu, rfl, q2, hq3, hq4, hrd2, hgr2⟩
      obtain ⟨z, hz, rfl⟩ := List.mem_map.1 hu
      have HZ := Lib.hid (bentW_ok z hz)
      clear hz hu
      unfold strV
      go_wp2_with fail
      go_ret
      exact ⟨z, HZ.out, rfl, q2, by omega, by omega, hrd2, grown_trans hgr1 (grown_trans (grown_alloc (grown_refl w1 (some g)) _) hgr2)⟩
  · have p0 : ((v : Int) == 0) = false := by rw [beq_eq_false_iff_ne]; omega
    have HS := Lib.hid (l3Some_any B g A len cap q1 w1 hrd1 (by omega))
    go_wp2_with fail
    refine HS.out.mono ?_
    rintro e w2 ⟨z, hz, rfl, q2, hq3, hq4, hrd2, hgr2⟩
    go_wp2_with fail
    go_ret
    exact ⟨z, by omega, rfl, q2, by omega, by omega, hrd2, grown_trans hgr1 hgr2⟩
/-- A text was drawn. -/
def DrawnStr (most : Nat) (w : World) (e : Ending) (w' : World) : Prop := ∃ s : ByteArray, s.size ≤ most ∧ e = .returned (.string s) ∧ Below w.heap.size w w'
theorem drawTokKind_any (A : Option Addr) (len cap : Nat) (w : World) (h : InCode w A len cap) :
    Calls Tryz.prog 38 #[.slice A len cap] w (DrawnStr 9 w) := by
  have HO := Lib.hid (open_any A len cap w h)
  clear h
  go_enter Tryz.func38, Tryz.ntmps38
  go_wp2_with fail
  refine HO.out.mono ?_
  rintro e w1 ⟨A', len', cap', rfl, hrd, hb1⟩
  go_wp2_with fail
  refine (l3Bent_any _ _ _ _ _ _ w1 hrd (by omega)).mono ?_
  rintro e w2 ⟨z, hz1, rfl, hrd2⟩
  go_wp2_with fail
  go_ret
  exact ⟨z, hz1, rfl, hb1.trans (hrd2.below (Nat.le_refl _) hb1.size)⟩

theorem toks_length (l : List UInt8) : ∀ col ts, toks col l = some ts → ts.length ≤ l.length := by
  induction hn : l.length using Nat.strongRecOn generalizing l with
  | ind n ih =>
    intro col ts h
    rcases toks_step l col ts h with ⟨rfl, _⟩ | ⟨m, w, r, ts', h1, rfl, h3, h4, h5⟩
    · simp
    · have hw : 1 ≤ w.length := by
        have := h5.ne
        cases w with
        | nil => exact absurd rfl this
        | cons c t => simp
      have hl : l.length = m + (w.length + r.length) := by rw [h1]; simp
      have := ih r.length (by omega) r rfl _ _ h3
      simp
      omega
theorem toksR_length (s : ByteArray) : ((toksR s).getD []).length ≤ 120 := by
  unfold toksR
  split
  · rename_i h
    cases ht : toks 0 (L s) with
    | none => simp
    | some ts =>
      have := toks_length _ _ _ ht
      rw [L_length] at this
      simp
      omega
  · simp
/-- Two lists of words were drawn, each of its own. -/
def DrawnToks (w : World) (e : Ending) (w' : World) : Prop :=
  ∃ (A B : Option Addr) (c d : Nat) (xs ys : List Tv), e = .returned (.tuple #[.slice A xs.length c, .slice B ys.length d]) ∧ xs.length ≤ 120 ∧ ys.length ≤ 120 ∧ xs.length ≤ c ∧ SlIs w' A (rowT xs) ∧ SlIs w' B (rowT ys) ∧ Below w.heap.size w w'
end Go.Proofs.YtkfnbakhbbcfcaaGreatDoor
