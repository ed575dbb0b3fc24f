/-
  The contracts of the model's l4At, l4Texts and l4Level at words, and what its reader answers.
-/
import Derived.Test.YtodioplkgjpcjaaGreatDoorKidsS
import Derived.Test.YtodioplkgjpcjaaGreatDoorGC
import Derived.Test.YtodioplkgjpcjaaGreatDoorExSpec
import Derived.Deep.LoopGhost
namespace Go.Proofs.YtodioplkgjpcjaaGreatDoor
open Go.RowKit

/-- What is fixed while words are read. -/
structure SpC (w0 : World) (A : Option Addr) (ws : List ByteArray) : Prop where
  sl : SlIs w0 A (ws.map strV)
  small : ∀ s ∈ ws, s.size ≤ 2 ^ 40
  few : ws.length ≤ 2 ^ 30
theorem SpC.below {w w' : World} {A : Option Addr} {ws : List ByteArray} (h : SpC w A ws) (hb : Below w.heap.size w w') : SpC w' A ws := ⟨h.sl.below hb, h.small, h.few⟩
theorem speek_lt {ws : List ByteArray} {k : Nat} (h : k < ws.length) : peekL ws k = ws[k] := by simp [peekL, List.getD, h]
theorem speek_ge {ws : List ByteArray} {k : Nat} (h : ws.length ≤ k) : peekL ws k = ByteArray.empty := by simp [peekL, List.getD, h]
theorem speek_in {ws : List ByteArray} {k : Nat} (h : peekL ws k ≠ ByteArray.empty) : k < ws.length := by
  rcases Nat.lt_or_ge k ws.length with h1 | h1
  · exact h1
  · exact absurd (speek_ge h1) h
theorem SpC.size {w0 : World} {A : Option Addr} {ws : List ByteArray} (h : SpC w0 A ws) (k : Nat) : (peekL ws k).size ≤ 2 ^ 40 := by
  rcases Nat.lt_or_ge k ws.length with h1 | h1
  · rw [speek_lt h1]; exact h.small _ (List.getElem_mem h1)
  · rw [speek_ge h1]; decide

theorem dec_numV {s : ByteArray} (h : decL (L s) = true) : numV (L s) = some (decV 0 (L s) : Int) := by
  have h2 := h
  simp only [decL, Bool.and_eq_true, decide_eq_true_eq] at h2
  have hl := decL_length h
  unfold numV
  rw [if_neg ?_, if_pos ⟨by omega, h2.1, h2.2.1⟩]
  intro e
  cases hs : L s with
  | nil => rw [hs] at e; cases e
  | cons c l =>
    rw [hs] at e h2
    simp only [List.head?_cons, Option.some.injEq] at e
    subst e
    simp [isDig] at h2
set_option maxRecDepth 100000 in
set_option maxHeartbeats 1000000 in
theorem l4At_any {w : World} {A : Option Addr} {c : Nat} {ws : List ByteArray} (C : SpC w A ws) (k : Nat) (hk : k ≤ 2 ^ 40) :
    Calls Tryz.prog 89 #[.slice A ws.length c, .int .i64 (k : Int)] w fun e w' => e = .returned (.string (peekL ws k)) ∧ w = w' := by
  have q0 : decide ((0 : Int) ≤ (k : Int)) = true := by simp
  by_cases hlt : k < ws.length
  · obtain ⟨g, off, eA, hg, hc⟩ := C.sl.at_ (k := k) (by simpa using hlt)
    rw [List.getElem_map] at hc
    subst eA
    have q1 : decide ((k : Int) < (ws.length : Int)) = true := by simp; omega
    have q2 : (0 : Int) ≤ (k : Int) := by omega
    have q3 : (k : Int) < (ws.length : Int) := by omega
    have HP := Lib.hid (speek_lt hlt)
    unfold strV at hc
    generalize ws[k] = s at *
    clear C
    go_enter Tryz.func89, Tryz.ntmps89
    go_wp2_with fail
    go_ret
    exact ⟨ret_str HP.out.symm, rfl⟩
  · have q1 : decide ((k : Int) < (ws.length : Int)) = false := by simp; omega
    have HP := Lib.hid (speek_ge (ws := ws) (k := k) (by omega))
    clear C
    go_enter Tryz.func89, Tryz.ntmps89
    go_wp2_with fail
    go_ret
    exact ⟨ret_str HP.out.symm, rfl⟩

set_option maxRecDepth 100000 in
set_option maxHeartbeats 2000000 in
theorem l4Texts_any (A A' : Option Addr) (c c' : Nat) (xs ys : List ByteArray) (w : World) (hx : SlIs w A (xs.map strV)) (hy : SlIs w A' (ys.map strV)) (hl : xs.length ≤ 2 ^ 40) :
    Calls Tryz.prog 52 #[.slice A xs.length c, .slice A' ys.length c'] w fun e w' => e = .returned (.bool (decide (xs = ys))) ∧ Below w.heap.size w w' := by
  by_cases h4 : xs.length = ys.length
  case neg =>
    have q4 : ((xs.length : Int) != (ys.length : Int)) = true := by rw [bne_iff_ne]; omega
    have H4 := Lib.hid h4
    clear h4 hx hy
    go_enter Tryz.func52, Tryz.ntmps52
    go_wp2_with fail
    go_ret
    exact ⟨ret_bool (decide_eq_false (fun e => H4.out (by rw [e]))).symm, Below.refl _ _⟩
  have q4 : ((xs.length : Int) != (ys.length : Int)) = false := by rw [bne_eq_false_iff_eq]; omega
  have hl1 : xs.length ≤ ys.length := by omega
  have hl2 : ys.length ≤ xs.length := by omega
  have HX := Lib.hid hx
  have HY := Lib.hid hy
  clear h4 hx hy
  go_enter Tryz.func52, Tryz.ntmps52
  go_wp2_with fail
  go_loopg [5] xs.length (fun gk i wr => ∃ j : Nat, j + gk = xs.length ∧ i = .int .i64 (j : Int) ∧ Hid (xs.take j = ys.take j) ∧ Below w.heap.size w wr)
  case atStart => exact ⟨0, by omega, rfl, by simp [Hid], Below.refl _ _⟩
  case round =>
    obtain ⟨j, hj, rfl, HTK, hBw⟩ := hrel
    by_cases hlt : j < xs.length
    · have hlt' : j < ys.length := by omega
      obtain ⟨g, off, eA, hg, hc⟩ := (HX.out.below hBw).at_ (k := j) (by simpa using hlt)
      obtain ⟨g', off', eA', hg', hc'⟩ := (HY.out.below hBw).at_ (k := j) (by simpa using hlt')
      rw [List.getElem_map] at hc hc'
      subst eA eA'
      have HT1 := Lib.hid (List.take_succ_eq_append_getElem hlt)
      have HT2 := Lib.hid (List.take_succ_eq_append_getElem hlt')
      have HG := Lib.hid (show xs = ys → xs[j] = ys[j] from fun e => by subst e; rfl)
      unfold strV at hc hc'
      generalize xs[j] = s at *
      generalize ys[j] = t at *
      have q1 : (0 : Int) ≤ (j : Int) := by omega
      have q2 : (j : Int) < (xs.length : Int) := by omega
      have q3 : (j : Int) < (ys.length : Int) := by omega
      have hjb : j ≤ 2 ^ 40 := by omega
      by_cases hst : s = t
      · subst hst
        have q5 : (!s.toList == s.toList) = false := by simp
        go_wp2_with fail
        go_quiet (fail)
        go_wp2_with fail
        go_roundg (gk - 1)
        case measure => omega
        case rel => exact ⟨j + 1, by omega, by go_num, by show _ = _; rw [HT1.out, HT2.out, HTK.out], hBw.trans ((below_draws _).mono hBw.size)⟩
      · have q5 : (!s.toList == t.toList) = true := by
          cases hb : s.toList == t.toList
          · rfl
          · exfalso
            apply hst
            have h1 : s.toList = t.toList := by simpa using hb
            rw [ByteArray.toList_eq, ByteArray.toList_eq] at h1
            exact ByteArray.ext (Array.toList_inj.1 h1)
        have HST := Lib.hid hst
        clear hst
        go_wp2_with fail
        go_quiet (fail)
        go_wp2_with fail
        go_ret
        exact ⟨ret_bool (decide_eq_false (fun e => HST.out (HG.out e))).symm, hBw.trans ((below_draws _).mono hBw.size)⟩
    · go_wp2_with fail
      go_ret
      exact ⟨ret_bool (decide_eq_true (by have h5 := HTK.out; rwa [List.take_of_length_le (by omega), List.take_of_length_le (by omega)] at h5)).symm, hBw⟩

/-- How tight the model takes a mark to hold, whatever the word. -/
def lvlW (s : ByteArray) : Nat := if s = sLess then 1 else if s = sTimes then 3 else 2
theorem lvlW_hold {s : ByteArray} {l : Nat} (hl : l = 2 ∨ l = 3) : (hold s = l) ↔ (lvlW s = l ∧ hold s ≠ 0) := by
  unfold hold lvlW
  by_cases h1 : s = sLess
  · rw [if_pos h1, if_pos h1]; omega
  rw [if_neg h1, if_neg h1]
  by_cases h2 : s = sPlus
  · have : ¬ s = sTimes := by rw [h2]; decide
    rw [if_pos h2, if_neg this]; omega
  rw [if_neg h2]
  by_cases h3 : s = sMinus
  · have : ¬ s = sTimes := by rw [h3]; decide
    rw [if_pos h3, if_neg this]; omega
  rw [if_neg h3]
  by_cases h4 : s = sTimes
  · rw [if_pos h4, if_pos h4]; omega
  · rw [if_neg h4, if_neg h4]; omega
set_option maxRecDepth 100000 in
set_option maxHeartbeats 1000000 in
theorem l4LevelW_any (s : ByteArray) (w : World) :
    Calls Tryz.prog 78 #[.agg #[.int .i64 3, .int .i64 0, .string s, .slice none 0 0]] w fun e w' => e = .returned (.int .i64 (lvlW s : Int)) ∧ Below w.heap.size w w' := by
  have HF := Lib.hid (show lvlW s = if (s.toList == [60]) = true then 1 else if (s.toList == [42]) = true then 3 else 2 by rw [isS, isS]; unfold lvlW; simp only [decide_eq_true_eq]; rfl)
  generalize lvlW s = lv at *
  cases h1 : (s.toList == [60])
  · cases h2 : (s.toList == [42])
    · rw [h1, h2] at HF
      go_enter Tryz.func78, Tryz.ntmps78
      go_wp2_with fail
      go_ret
      exact ⟨by rw [HF.out]; rfl, (Below.refl _ w).alloc (Nat.le_refl _) _⟩
    · rw [h1, h2] at HF
      go_enter Tryz.func78, Tryz.ntmps78
      go_wp2_with fail
      go_ret
      exact ⟨by rw [HF.out]; rfl, (Below.refl _ w).alloc (Nat.le_refl _) _⟩
  · rw [h1] at HF
    go_enter Tryz.func78, Tryz.ntmps78
    go_wp2_with fail
    go_ret
    exact ⟨by rw [HF.out]; rfl, (Below.refl _ w).alloc (Nat.le_refl _) _⟩

theorem kidsS_one {w : World} {S : Nat → Prop} {g : Nat} {x : Ex} {D : Option Addr} {c : Nat} (hg : S g) (hB : Blk w g (kidCells x D c).toArray) (hc : x.kids.length ≤ c) (hK : KidsS w S D x.kids) : KidsS w S (some ⟨g, 0, none⟩) [x] := by
  have b0 := hB.cell 0
  have b1 := hB.cell 1
  have b2 := hB.cell 2
  have b3 := hB.cell 3
  refine .mk (fun _ => D) (fun _ => c) hg ⟨_, hB⟩ ?_ ?_ ?_ ?_ ?_ ?_ <;> intro j hj <;> obtain rfl : j = 0 := (by simpa using hj)
  · exact b0
  · exact b1
  · exact b2
  · exact b3
  · exact hc
  · exact hK
theorem kidsS_two {w : World} {S : Nat → Prop} {g : Nat} {x y : Ex} {D E : Option Addr} {c d : Nat} (hg : S g) (hB : Blk w g (kidCells x D c ++ kidCells y E d).toArray) (hc : x.kids.length ≤ c) (hd : y.kids.length ≤ d) (hK : KidsS w S D x.kids) (hL : KidsS w S E y.kids) : KidsS w S (some ⟨g, 0, none⟩) [x, y] := by
  have b0 := hB.cell 0
  have b1 := hB.cell 1
  have b2 := hB.cell 2
  have b3 := hB.cell 3
  have b4 := hB.cell 4
  have b5 := hB.cell 5
  have b6 := hB.cell 6
  have b7 := hB.cell 7
  refine .mk (fun j => if j = 0 then D else E) (fun j => if j = 0 then c else d) hg ⟨_, hB⟩ ?_ ?_ ?_ ?_ ?_ ?_ <;> intro j hj <;> have hj2 : j = 0 ∨ j = 1 := (by simp at hj; omega) <;> rcases hj2 with rfl | rfl
  · exact b0
  · exact b4
  · exact b1
  · exact b5
  · exact b2
  · exact b6
  · exact b3
  · exact b7
  · exact hc
  · exact hd
  · exact hK
  · exact hL
/-- A store of four cells and a block behind it: what is below, and what is elsewhere. -/
theorem below_behind {b : Nat} {w wn : World} (h : Behind5 b w wn) (B : Nat) (hB : B ≤ b) (hw : B ≤ w.heap.size) : Below B w wn := ⟨h.2.1, h.2.2.1, h.2.2.2.1, h.2.2.2.2, fun k hk => h.1 k (by omega) (by omega)⟩
theorem behind_drew {b : Nat} {w wn : World} (h : Behind5 b w wn) : Behind5 b w wn.drew := h
/-- What the model's reader of parts answers. -/
def SGot (ws : List ByteArray) (Rel : Option (Pt × Nat) → Prop) (k : Nat) (w : World) (r : Ending) (w' : World) : Prop :=
  (∃ p k' A c, Rel (some (p, k')) ∧ r = .returned (.tuple #[.agg #[.int .i64 p.ex.kind, .int .i64 p.ex.n, .string p.ex.s, .slice A p.ex.kids.length c], .int .i64 (k' : Int)]) ∧ p.ex.kids.length ≤ c ∧ KidsS w' (fun b => w.heap.size ≤ b ∧ b < w'.heap.size) A p.ex.kids ∧ Below w.heap.size w w' ∧ k < k' ∧ k' ≤ ws.length ∧ p.ex.wt + 9 * k ≤ 9 * k') ∨
  (∃ (a b : Int) (s : ByteArray) (A : Option Addr) (n c : Nat), Rel none ∧ r = .returned (.tuple #[.agg #[.int .i64 a, .int .i64 b, .string s, .slice A n c], .int .i64 (-1)]) ∧ Below w.heap.size w w')
def AtomOk (ws : List ByteArray) (A : Option Addr) (c d : Nat) : Prop := ∀ (k : Nat) (w : World), k ≤ ws.length → SpC w A ws → Calls Tryz.prog 117 #[.slice A ws.length c, .int .i64 (k : Int), .int .i64 (d : Int)] w (SGot ws (SAtom ws d k) k w)
def LoopOk (ws : List ByteArray) (A : Option Addr) (c l d : Nat) : Prop := ∀ (k : Nat) (w : World), k ≤ ws.length → SpC w A ws → Calls Tryz.prog 88 #[.slice A ws.length c, .int .i64 (k : Int), .int .i64 (l : Int), .int .i64 (d : Int)] w (SGot ws (SLoop ws l d k) k w)
def Lvl1Ok (ws : List ByteArray) (A : Option Addr) (c d : Nat) : Prop := ∀ (k : Nat) (w : World), k ≤ ws.length → SpC w A ws → Calls Tryz.prog 51 #[.slice A ws.length c, .int .i64 (k : Int), .int .i64 (d : Int)] w (SGot ws (SLvl1 ws d k) k w)
end Go.Proofs.YtodioplkgjpcjaaGreatDoor
