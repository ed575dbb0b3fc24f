/-
  The contracts of the model's draws: DrawTextOk, DrawTextLines, DrawPosOf, DrawPosOff, DrawTextJoin, DrawPosLess, for all codes.
-/
import Derived.Test.YtnpcohbbjfjjaaaDrawText
import Derived.Test.YtnpcohbbjfjjaaaSpecCut
import Derived.Deep.RegionHeld3
import Derived.Deep.Onto
namespace Go.Proofs.Ytnpcohbbjfjjaaa
open Go.RowKit

theorem Read.below {w w' : World} {B g : Nat} {A : Option Addr} {len cap p k : Nat} (h : Read w B g A len cap p k w') (hB : B ≤ g) (hw : B ≤ w.heap.size) : Below B w w' := by
  obtain ⟨_, _, _, _, hg⟩ := h
  exact grown_below hg hB hw

theorem Rd.kept {w w' : World} {B g : Nat} {A : Option Addr} {len cap p : Nat} {v : Value} {base : Nat} {t : TypeId} {n : Nat} {xs : List Value} (h : Rd w B g A len cap p) (hg : w.grownBy w' v.ownBlock) (hne : v.ownBlock ≠ some g) (hrow : w.ownsRow base t 1 v n xs) (hb : B ≤ base) : Rd w' B g A len cap p := by
  refine ⟨(hg.block g h.lt (fun e => hne e.symm)).trans h.1, h.2.1, ?_, h.2.2.2⟩
  rcases h.2.2.1 with h0 | ⟨hh, off, e, hlt, hc⟩
  · exact .inl h0
  · refine .inr ⟨hh, off, e, hlt, fun j hj => ?_⟩
    obtain ⟨z, z0, z1, hz⟩ := hc j hj
    have hblk : w'.heap[hh]? = w.heap[hh]? := hg.block hh (by have := h.lt; have := h.2.1; omega) (fun e => by
      have := (hrow.lt hh e.symm).1
      omega)
    exact ⟨z, z0, z1, (World.cell?_of_block (a := ⟨hh, off + j, none⟩) hblk).trans hz⟩

/-- A text was drawn, and nothing that was there has turned. -/
def Drawn (w : World) (e : Ending) (w' : World) : Prop := ∃ s : ByteArray, s.size ≤ 8000 ∧ e = .returned (.string s) ∧ Below w.heap.size w w'

set_option maxHeartbeats 400000 in
theorem drawTextOk_any (A : Option Addr) (len cap : Nat) (w : World) (h : InCode w A len cap) :
    Calls Try.prog 34 #[.slice A len cap] w (Drawn w) := by
  have HO := Lib.hid (open_any A len cap w h)
  clear h
  go_enter Try.func34, Try.ntmps34
  go_wp2_with fail
  refine HO.out.mono ?_
  rintro e w1 ⟨A', len', cap', rfl, hrd, hb1⟩
  go_wp2_with fail
  refine (l1Text_any _ _ _ _ _ _ w1 hrd (by omega)).mono ?_
  rintro e w2 ⟨s, hs, rfl, hrd2⟩
  go_wp2_with fail
  go_ret
  exact ⟨s, hs, rfl, hb1.trans (hrd2.below (Nat.le_refl _) hb1.size)⟩
set_option maxHeartbeats 400000 in
theorem drawTextLines_any (A : Option Addr) (len cap : Nat) (w : World) (h : InCode w A len cap) :
    Calls Try.prog 24 #[.slice A len cap] w (Drawn w) := by
  have HO := Lib.hid (open_any A len cap w h)
  clear h
  go_enter Try.func24, Try.ntmps24
  go_wp2_with fail
  refine HO.out.mono ?_
  rintro e w1 ⟨A', len', cap', rfl, hrd, hb1⟩
  go_wp2_with fail
  refine (l1Text_any _ _ _ _ _ _ w1 hrd (by omega)).mono ?_
  rintro e w2 ⟨s, hs, rfl, hrd2⟩
  go_wp2_with fail
  go_ret
  exact ⟨s, hs, rfl, hb1.trans (hrd2.below (Nat.le_refl _) hb1.size)⟩
set_option maxHeartbeats 400000 in
theorem l1Min_any (a b : Nat) (w : World) :
    Calls Try.prog 45 #[.int .i64 (a : Int), .int .i64 (b : Int)] w fun e w' => e = .returned (.int .i64 ((min a b : Nat) : Int)) ∧ w = w' := by
  by_cases h : a < b
  · have q : (a : Int) < (b : Int) := by omega
    have HM := Lib.hid (show min a b = a by omega)
    go_enter Try.func45, Try.ntmps45
    go_wp2
    go_ret
    exact ⟨by rw [HM.out]; rfl, rfl⟩
  · have q : ¬ (a : Int) < (b : Int) := by omega
    have HM := Lib.hid (show min a b = b by omega)
    go_enter Try.func45, Try.ntmps45
    go_wp2
    go_ret
    exact ⟨by rw [HM.out]; rfl, rfl⟩

/-- A text and a byte were drawn. -/
def DrawnOf (w : World) (e : Ending) (w' : World) : Prop := ∃ (s : ByteArray) (off : Int), s.size ≤ 8000 ∧ -1 ≤ off ∧ off ≤ 10000 ∧ e = .returned (.tuple #[.string s, .int .i64 off]) ∧ Below w.heap.size w w'

set_option maxHeartbeats 400000 in
theorem drawPosOf_any (A : Option Addr) (len cap : Nat) (w : World) (h : InCode w A len cap) :
    Calls Try.prog 15 #[.slice A len cap] w (DrawnOf w) := by
  have HO := Lib.hid (open_any A len cap w h)
  clear h
  go_enter Try.func15, Try.ntmps15
  go_wp2_with fail
  refine HO.out.mono ?_
  rintro e w1 ⟨A', len', cap', rfl, hrd, hb1⟩
  go_wp2_with fail
  refine (l1Text_any _ _ _ _ _ _ w1 hrd (by omega)).mono ?_
  rintro e w2 ⟨s, hs, rfl, hrd2⟩
  have hB2 : Below w.heap.size w w2 := hb1.trans (hrd2.below (Nat.le_refl _) hb1.size)
  obtain ⟨q, hq1, hq2, hrq, _⟩ := hrd2
  go_wp2_with fail
  refine (l1Min_any s.size 60 w2).mono ?_
  rintro e w' ⟨rfl, rfl⟩
  generalize hm : min s.size 60 = m at *
  have hm60 : m ≤ 60 := by omega
  clear hm
  go_wp2_with fail
  have hpk := pick_any _ _ _ _ _ q (m + 3) w2 hrq (by omega) (by omega) (by omega)
  rw [show ((m + 3 : Nat) : Int) = (m : Int) + 3 from by omega] at hpk
  refine hpk.mono ?_
  rintro e w3 ⟨v, hv, rfl, hrd3⟩
  have hB3 : Below w.heap.size w w3 := hB2.trans (hrd3.below (Nat.le_refl _) hB2.size)
  go_wp2_with fail
  go_ret2
  exact ⟨s, (v : Int) - 1, hs, by omega, by omega, rfl, hB3⟩
/-- A text and a place were drawn. -/
def DrawnOff (w : World) (e : Ending) (w' : World) : Prop := ∃ (s : ByteArray) (a b : Int), s.size ≤ 300 ∧ -2 ≤ a ∧ a ≤ 10 ∧ -2 ≤ b ∧ b ≤ 10 ∧ e = .returned (.tuple #[.string s, .agg #[.int .i64 a, .int .i64 b]]) ∧ Below w.heap.size w w'

set_option maxHeartbeats 1000000 in
theorem drawPosOff_any (A : Option Addr) (len cap : Nat) (w : World) (h : InCode w A len cap) :
    Calls Try.prog 20 #[.slice A len cap] w (DrawnOff w) := by
  have h2 : InCode (w.alloc (.cells #[.int .i64 0, .int .i64 0] 26)) A len cap := by
    refine ⟨h.1, h.2.1, ?_⟩
    rcases h.2.2 with h0 | ⟨hh, off, e, hb, hc⟩
    · exact .inl h0
    · refine .inr ⟨hh, off, e, by simp; omega, fun j hj => ?_⟩
      obtain ⟨z, z0, z1, hz⟩ := hc j hj
      exact ⟨z, z0, z1, (World.cell?_alloc_lt w _ ⟨hh, off + j, none⟩ hb).trans hz⟩
  have HO := Lib.hid (open_any A len cap _ h2)
  clear h h2
  go_enter Try.func20, Try.ntmps20
  go_wp2_with fail
  refine HO.out.mono ?_
  rintro e w1 ⟨A', len', cap', rfl, hrd, hb1⟩
  have hB1 : Below w.heap.size w w1 := ((Below.refl _ w).alloc (Nat.le_refl _) _).trans (hb1.mono (by simp))
  have bx := (Box2.new w 26 (.int .i64 0) (.int .i64 0)).below hb1 (by simp)
  simp only [World.size_alloc] at hrd
  go_wp2_with fail
  refine (l1Text_any _ _ _ _ _ _ w1 hrd (by omega)).mono ?_
  rintro e w2 ⟨s, hs, rfl, q2, hq1, hq2, hrd2, hgr2⟩
  have hlt1 := (Array.getElem?_eq_some_iff.1 bx).1
  have bx2 : Box2 w2 w.heap.size 26 (.int .i64 0) (.int .i64 0) := (hgr2.block _ hlt1 (by simp)).trans bx
  have hB2 : Below w.heap.size w w2 := hB1.trans (grown_below hgr2 (by omega) (by omega))
  clear bx hgr2 hrd hb1 HO
  have hlt2 := (Array.getElem?_eq_some_iff.1 bx2).1
  by_cases hbig : 300 < s.size
  · have q1 : (300 : Int) < (s.size : Int) := by omega
    have ht : (s.extract 0 300).size ≤ 300 := by simp; omega
    go_wp2_with fail
    generalize s.extract 0 300 = t at *
    refine (pick_any _ _ _ _ _ q2 5 w2 hrd2 (by omega) (by omega) (by omega)).mono ?_
    rintro e w3 ⟨v3, hv3, rfl, q3, hq3, hq3', hrd3, hgr3⟩
    go_wp2_with fail
    refine (pick_any _ _ _ _ _ q3 9 w3 hrd3 (by omega) (by omega) (by omega)).mono ?_
    rintro e w4 ⟨v4, hv4, rfl, q4, hq4, hq4', hrd4, hgr4⟩
    go_wp2_with fail
    refine (pick_any _ _ _ _ _ q4 9 w4 hrd4 (by omega) (by omega) (by omega)).mono ?_
    rintro e w5 ⟨v5, hv5, rfl, q5, hq5, hq5', hrd5, hgr5⟩
    go_wp2_with fail
    refine (pick_any _ _ _ _ _ q5 9 w5 hrd5 (by omega) (by omega) (by omega)).mono ?_
    rintro e w6 ⟨v6, hv6, rfl, q6, hq6, hq6', hrd6, hgr6⟩
    have hgr := grown_trans (grown_trans (grown_trans hgr3 hgr4) hgr5) hgr6
    have bx6 : Box2 w6 w.heap.size 26 (.int .i64 0) (.int .i64 0) := (hgr.block _ hlt2 (by simp)).trans bx2
    have hB6 : Below w.heap.size w w6 := hB2.trans (grown_below hgr (by omega) (by omega))
    clear hgr hgr3 hgr4 hgr5 hgr6 hrd3 hrd4 hrd5 hrd6 bx2
    have c0 := bx6.cell0
    have c1 := bx6.cell1
    have f0 := bx6.frozen 0
    have f1 := bx6.frozen 1
    go_wp2
    have b2 := bx6.set (.int .i64 ((v3 : Int) - (v4 : Int) / 8)) (.int .i64 ((v5 : Int) - (v6 : Int) / 8))
    exact bodyPost_ret (v := .tuple #[.string t, .agg #[.int .i64 ((v3 : Int) - (v4 : Int) / 8), .int .i64 ((v5 : Int) - (v6 : Int) / 8)]]) (by simp [results, Try.results20, go_sem, b2.cell0, b2.cell1]) rfl ⟨t, _, _, ht, by omega, by omega, by omega, by omega, rfl, below_set2 hB6 (Nat.le_refl _) _ _⟩
  · have q1 : ¬ (300 : Int) < (s.size : Int) := by omega
    have ht : s.size ≤ 300 := by omega
    go_wp2_with fail
    refine (pick_any _ _ _ _ _ q2 5 w2 hrd2 (by omega) (by omega) (by omega)).mono ?_
    rintro e w3 ⟨v3, hv3, rfl, q3, hq3, hq3', hrd3, hgr3⟩
    go_wp2_with fail
    refine (pick_any _ _ _ _ _ q3 9 w3 hrd3 (by omega) (by omega) (by omega)).mono ?_
    rintro e w4 ⟨v4, hv4, rfl, q4, hq4, hq4', hrd4, hgr4⟩
    go_wp2_with fail
    refine (pick_any _ _ _ _ _ q4 9 w4 hrd4 (by omega) (by omega) (by omega)).mono ?_
    rintro e w5 ⟨v5, hv5, rfl, q5, hq5, hq5', hrd5, hgr5⟩
    go_wp2_with fail
    refine (pick_any _ _ _ _ _ q5 9 w5 hrd5 (by omega) (by omega) (by omega)).mono ?_
    rintro e w6 ⟨v6, hv6, rfl, q6, hq6, hq6', hrd6, hgr6⟩
    have hgr := grown_trans (grown_trans (grown_trans hgr3 hgr4) hgr5) hgr6
    have bx6 : Box2 w6 w.heap.size 26 (.int .i64 0) (.int .i64 0) := (hgr.block _ hlt2 (by simp)).trans bx2
    have hB6 : Below w.heap.size w w6 := hB2.trans (grown_below hgr (by omega) (by omega))
    clear hgr hgr3 hgr4 hgr5 hgr6 hrd3 hrd4 hrd5 hrd6 bx2
    have c0 := bx6.cell0
    have c1 := bx6.cell1
    have f0 := bx6.frozen 0
    have f1 := bx6.frozen 1
    go_wp2
    have b2 := bx6.set (.int .i64 ((v3 : Int) - (v4 : Int) / 8)) (.int .i64 ((v5 : Int) - (v6 : Int) / 8))
    exact bodyPost_ret (v := .tuple #[.string s, .agg #[.int .i64 ((v3 : Int) - (v4 : Int) / 8), .int .i64 ((v5 : Int) - (v6 : Int) / 8)]]) (by simp [results, Try.results20, go_sem, b2.cell0, b2.cell1]) rfl ⟨s, _, _, ht, by omega, by omega, by omega, by omega, rfl, below_set2 hB6 (Nat.le_refl _) _ _⟩

/-- Lines were drawn: a slice of one's own, of few lines, each of few bytes that can be seen. -/
def DrawnJoin (w : World) (e : Ending) (w' : World) : Prop :=
  ∃ (v : Value) (ss : List ByteArray), ss.length ≤ 4 ∧ (∀ s ∈ ss, s.size ≤ 12 ∧ plainL (L s) = true) ∧ e = .returned v ∧ w'.ownsRow w.heap.size 9 1 v ss.length (ss.map strV) ∧ Below w.heap.size w w'

set_option maxRecDepth 100000 in
set_option maxHeartbeats 1000000 in
theorem drawTextJoin_any (A : Option Addr) (len cap : Nat) (w : World) (h : InCode w A len cap) :
    Calls Try.prog 28 #[.slice A len cap] w (DrawnJoin w) := by
  obtain ⟨i0, hi, hz0, hz1, hz2⟩ := info_parts infoStr
  have HO := Lib.hid (open_any A len cap w h)
  clear h
  go_enter Try.func28, Try.ntmps28
  go_wp2_with fail
  refine HO.out.mono ?_
  rintro e w1 ⟨A', len', cap', rfl, hrd, hb1⟩
  clear HO
  have hlt1 := hrd.lt
  go_wp2_with fail
  refine (pick_any _ _ _ _ _ 0 5 _ (hrd.alloc _) (by omega) (by omega) (by omega)).mono ?_
  rintro e w2 ⟨v2, hv2, rfl, q2, hq2, hq2', hrd2, hgr2⟩
  have hrow2 : w2.ownsRow w.heap.size 9 1 (.slice (some ⟨w1.heap.size, 0, none⟩) 0 0) 0 (([] : List ByteArray).map strV) :=
    ((ownsRow_empty w1 9).mono hb1.size).kept hgr2 (.inr (by simp [Value.ownBlock]; omega))
  have hB2 : Below w.heap.size w w2 := (hb1.alloc hb1.size _).trans (grown_below hgr2 (Nat.le_refl _) (by simp; omega))
  have hne2 : (Value.slice (some ⟨w1.heap.size, 0, none⟩) 0 0).ownBlock ≠ some w.heap.size := by simp [Value.ownBlock]; omega
  have hg2 := hrd2.lt
  clear hgr2 hrd hb1
  go_wp2
  go_loopw [4, 5] (fun v i wr => ∃ (k q : Nat) (ss : List ByteArray), i = .int .i64 k ∧ ss.length + k ≤ 4 ∧ q ≤ 1000 - 100 * k ∧ (∀ s ∈ ss, s.size ≤ 12 ∧ plainL (L s) = true) ∧ wr.ownsRow w.heap.size 9 1 v ss.length (ss.map strV) ∧ v.ownBlock ≠ some w.heap.size ∧ Rd wr w.heap.size w.heap.size A' len' cap' q ∧ Below w.heap.size w wr)
    (fun _ i _ => (intOf i).toNat)
  case atStart => exact ⟨v2, q2, [], rfl, by simp; omega, by omega, by simp, hrow2, hne2, hrd2, hB2⟩
  case round =>
    clear hrow2 hne2 hrd2 hB2 hq2 hq2'
    obtain ⟨k, q, ss, rfl, hsk, hq, hall, hrow, hne, hrdr, hB⟩ := hrel
    have HALL := Lib.hid hall
    have HROW := Lib.hid hrow
    have HNE := Lib.hid hne
    clear hall hrow hne
    by_cases hk0 : k = 0
    · subst hk0
      go_wp2
      go_ret
      exact ⟨_, ss, by omega, HALL.out, rfl, HROW.out, hB⟩
    · have hkp : 0 < (k : Int) := by omega
      go_wp2_with fail
      refine (l1Line_any _ _ _ _ _ q wr hrdr (by omega)).mono ?_
      rintro e w3 ⟨t, ht, htp, rfl, q3, hq3, hq3', hrd3, hgr3⟩
      have HTP := Lib.hid htp
      clear htp
      have hown := HROW.out.kept hgr3 (.inr HNE.out)
      have hB3 : Below w.heap.size w w3 := hB.trans (grown_below hgr3 (Nat.le_refl _) hB.size)
      have hg3 := hrd3.lt
      go_wp2_with (at_builtin; refine wpList_append_own_at _ rfl _ _ 35 rfl w.heap.size 9 i0 (.string ByteArray.empty) 1 16 Try.underlying35 hi hz0 hz1 hz2 rfl (by decide) _ _ _ rfl (hown.alloc _) ⟨w3.heap.size, 0, none⟩ 1 1 [.string t] rfl rfl (cell_one_new _ _ _) (by simp [Value.oneCell']) (by unfold maxLen; omega) (by omega) (by have := hB3.size; simp; omega) ?_; intro v' w4 hown' hgrow _ hat)
      go_roundw
      case rel =>
        refine ⟨k - 1, q3, ss ++ [t], by go_num, by simp; omega, by omega, ?_, by rw [List.map_append, List.length_append]; exact hown', row_apart HNE.out hat hg3, ?_, below_append hB3 hB3.size hown hgrow⟩
        · intro s hs
          rcases List.mem_append.1 hs with h | h
          · exact HALL.out s h
          · obtain rfl : s = t := by simpa using h
            exact ⟨ht, HTP.out⟩
        · exact Rd.kept (hrd3.alloc _) hgrow HNE.out (hown.alloc _) (Nat.le_refl _)
      case measure => simp [intOf]; omega

end Go.Proofs.Ytnpcohbbjfjjaaa
