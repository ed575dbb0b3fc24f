/-
  The contracts of the model's draws of numbers: l2Num, DrawNumText, DrawNumLetter, l2Torn, DrawNumRead, DrawNumsRead, DrawNumsText, for all codes.
-/
import Derived.Test.YtfppmckhpamloaaRd
import Derived.Test.YtfppmckhpamloaaNumSpec
import Derived.Test.YtfppmckhpamloaaInts
namespace Go.Proofs.Ytfppmckhpamloaa
open Go.RowKit

def numPicks : List Int := [0, 1, -1, 7, 8, -8, 15, 16, 127, 128, -1000, 1000000, -1000000, 1000001, -1000001]
theorem numPicks_bd : ∀ z ∈ numPicks, -1000001 ≤ z ∧ z ≤ 1000001 := by decide
/-- A number was drawn by a reader. -/
def NumPicked (w : World) (B g : Nat) (A : Option Addr) (len cap p : Nat) (e : Ending) (w' : World) : Prop :=
  ∃ z : Int, -1000001 ≤ z ∧ z ≤ 1000001 ∧ e = .returned (.int .i64 z) ∧ Read w B g A len cap p 1 w'

set_option maxRecDepth 100000 in
set_option maxHeartbeats 1000000 in
theorem l2Num_any (B g : Nat) (A : Option Addr) (len cap p : Nat) (w : World) (hr : Rd w B g A len cap p) (hp : p ≤ 2 ^ 20) :
    Calls Try.prog 33 #[.pointer (some ⟨g, 0, none⟩)] w (NumPicked w B g A len cap p) := by
  go_enter Try.func33, Try.ntmps33
  go_wp2_with fail
  refine (num_any B g A len cap p w.heap.size 15 15 numPicks _ (hr.alloc _) (by omega) rfl (by omega) (by omega) (by simp) (by have := hr.lt; omega) ?_).mono ?_
  · intro j hj
    rw [cell_made]
    match j, hj with
    | 0, _ => rfl
    | 1, _ => rfl
    | 2, _ => rfl
    | 3, _ => rfl
    | 4, _ => rfl
    | 5, _ => rfl
    | 6, _ => rfl
    | 7, _ => rfl
    | 8, _ => rfl
    | 9, _ => rfl
    | 10, _ => rfl
    | 11, _ => rfl
    | 12, _ => rfl
    | 13, _ => rfl
    | 14, _ => rfl
  · rintro e w2 ⟨u, hu, rfl, q2, hq3, hq4, hrd2, hgr2⟩
    obtain ⟨z, hz, rfl⟩ := List.mem_map.1 hu
    obtain ⟨hz1, hz2⟩ := numPicks_bd z hz
    clear hz hu
    go_wp2_with fail
    go_ret
    exact ⟨z, hz1, hz2, rfl, q2, hq3, hq4, hrd2, grown_trans (grown_alloc (grown_refl w (some g)) _) hgr2⟩

/-- A number was drawn. -/
def DrawnInt (lo hi : Int) (w : World) (e : Ending) (w' : World) : Prop := ∃ z : Int, lo ≤ z ∧ z ≤ hi ∧ e = .returned (.int .i64 z) ∧ Below w.heap.size w w'
/-- A text was drawn. -/
def DrawnStr (most : Nat) (w : World) (e : Ending) (w' : World) : Prop := ∃ s : ByteArray, s.size ≤ most ∧ e = .returned (.string s) ∧ Below w.heap.size w w'

theorem drawNumText_any (A : Option Addr) (len cap : Nat) (w : World) (h : InCode w A len cap) :
    Calls Try.prog 14 #[.slice A len cap] w (DrawnInt (-1000001) 1000001 w) := by
  have HO := Lib.hid (open_any A len cap w h)
  clear h
  go_enter Try.func14, Try.ntmps14
  go_wp2_with fail
  refine HO.out.mono ?_
  rintro e w1 ⟨A', len', cap', rfl, hrd, hb1⟩
  go_wp2_with fail
  refine (l2Num_any _ _ _ _ _ _ w1 hrd (by omega)).mono ?_
  rintro e w2 ⟨z, hz1, hz2, rfl, hrd2⟩
  go_wp2_with fail
  go_ret
  exact ⟨z, hz1, hz2, rfl, hb1.trans (hrd2.below (Nat.le_refl _) hb1.size)⟩
theorem drawNumLetter_any (A : Option Addr) (len cap : Nat) (w : World) (h : InCode w A len cap) :
    Calls Try.prog 26 #[.slice A len cap] w (DrawnInt (-2) 33 w) := by
  have HO := Lib.hid (open_any A len cap w h)
  clear h
  go_enter Try.func26, Try.ntmps26
  go_wp2_with fail
  refine HO.out.mono ?_
  rintro e w1 ⟨A', len', cap', rfl, hrd, hb1⟩
  go_wp2_with fail
  refine (pick_any _ _ _ _ _ 0 36 w1 hrd (by omega) (by omega) (by omega)).mono ?_
  rintro e w2 ⟨v, hv, rfl, hrd2⟩
  go_wp2_with fail
  go_ret
  exact ⟨(v : Int) - 2, by omega, by omega, rfl, hb1.trans (hrd2.below (Nat.le_refl _) hb1.size)⟩
def tearPicks : List ByteArray := [⟨#[]⟩, ⟨#[97]⟩, ⟨#[65]⟩, ⟨#[98]⟩, ⟨#[80]⟩, ⟨#[122]⟩, ⟨#[80, 80, 80, 80, 80, 80, 80, 80]⟩]
theorem tearPicks_bd : ∀ s ∈ tearPicks, s.size ≤ 8 := by decide
/-- Letters were drawn by a reader. -/
def TornDrawn (w : World) (B g : Nat) (A : Option Addr) (len cap p : Nat) (e : Ending) (w' : World) : Prop :=
  ∃ s : ByteArray, s.size ≤ 40 ∧ e = .returned (.string s) ∧ Read w B g A len cap p 8 w'
theorem tear_cells (w : World) (j : Nat) (hj : j < tearPicks.length) : (w.alloc (.cells #[.string ⟨#[]⟩, .string ⟨#[97]⟩, .string ⟨#[65]⟩, .string ⟨#[98]⟩, .string ⟨#[80]⟩, .string ⟨#[122]⟩, .string ⟨#[80, 80, 80, 80, 80, 80, 80, 80]⟩] 9)).cell? ⟨w.heap.size, j, none⟩ = some (.string tearPicks[j]) := by
  rw [cell_made]
  match j, hj with
  | 0, _ => rfl
  | 1, _ => rfl
  | 2, _ => rfl
  | 3, _ => rfl
  | 4, _ => rfl
  | 5, _ => rfl
  | 6, _ => rfl
theorem Rd.drew {w : World} {B g : Nat} {A : Option Addr} {len cap p : Nat} (h : Rd w B g A len cap p) : Rd w.drew B g A len cap p := h
theorem grown_drew1 {a w : World} {row : Option Nat} (h : a.grownBy w row) : a.grownBy w.drew row := ⟨h.os, h.tape, h.output, h.size, h.block⟩

/-- A piece to tear with was drawn. -/
def TearPicked (w : World) (B g : Nat) (A : Option Addr) (len cap p : Nat) (e : Ending) (w' : World) : Prop :=
  ∃ t : ByteArray, t.size ≤ 8 ∧ e = .returned (.string t) ∧ Read w B g A len cap p 1 w'
theorem tear_of (B g : Nat) (A : Option Addr) (len cap p : Nat) (w : World) (hr : Rd w B g A len cap p) (hp : p ≤ 2 ^ 20) :
    Calls Try.prog 48 #[.pointer (some ⟨g, 0, none⟩), .slice (some ⟨w.heap.size, 0, none⟩) 7 7] (w.alloc (.cells #[.string ⟨#[]⟩, .string ⟨#[97]⟩, .string ⟨#[65]⟩, .string ⟨#[98]⟩, .string ⟨#[80]⟩, .string ⟨#[122]⟩, .string ⟨#[80, 80, 80, 80, 80, 80, 80, 80]⟩] 9)).drew (TearPicked w B g A len cap p) := by
  have hl := hr.lt
  refine (of_any B g A len cap p w.heap.size 7 7 tearPicks _ (hr.alloc _).drew (by omega) rfl (by omega) (by omega) (by simp [World.drew]) (by omega) (fun j hj => tear_cells w j hj)).mono ?_
  rintro e w1 ⟨u, hu, he, q, hq1, hq2, hrd, hgr⟩
  obtain ⟨t, ht, rfl⟩ := List.mem_map.1 hu
  exact ⟨t, tearPicks_bd t ht, he, q, hq1, hq2, hrd, grown_trans (grown_drew1 (grown_alloc (grown_refl w (some g)) _)) hgr⟩

set_option maxRecDepth 100000 in
set_option maxHeartbeats 2000000 in
theorem l2Torn_any (B g : Nat) (A : Option Addr) (len cap p : Nat) (w : World) (hr : Rd w B g A len cap p) (hp : p ≤ 2 ^ 18) :
    Calls Try.prog 40 #[.pointer (some ⟨g, 0, none⟩)] w (TornDrawn w B g A len cap p) := by
  have HP := Lib.hid (pick_any B g A len cap p 4 w hr (by omega) (by omega) (by omega))
  go_enter Try.func40, Try.ntmps40
  go_wp2_with fail
  refine HP.out.mono ?_
  rintro e w1 ⟨v, hv, rfl, q, hq1, hq2, hrd, hgr⟩
  clear HP hr
  go_wp2_with fail
  go_loopw [3, 4] (fun o i wr => ∃ (k q : Nat) (out : ByteArray), i = .int .i64 k ∧ o = .string out ∧ k ≤ 3 ∧ out.size + 6 * k ≤ 18 ∧ p ≤ q ∧ q + k ≤ p + 4 ∧ Rd wr B g A len cap q ∧ w.grownBy wr (some g))
    (fun _ i _ => (intOf i).toNat)
  case atStart => exact ⟨v, q, _, rfl, rfl, by omega, by show 0 + 6 * v ≤ 18; omega, hq1, by omega, hrd, hgr⟩
  case round =>
    clear hrd hgr hq1 hq2 hv
    obtain ⟨k, q, out, rfl, rfl, hk, hsz, hq1, hq2, hrd, hgr⟩ := hrel
    by_cases hk0 : k = 0
    · subst hk0
      by_cases hz : out.size = 0
      · have q1 : ((out.size : Int) == 0) = true := beq_iff_eq.2 (by omega)
        clear hz
        go_wp2_with fail
        go_ret
        exact ⟨out, by omega, rfl, q, by omega, by omega, hrd, hgr⟩
      · have q1 : ((out.size : Int) == 0) = false := beq_eq_false_iff_ne.2 (by omega)
        go_wp2_with fail
        refine (pick_any B g A len cap q 2 wr hrd (by omega) (by omega) (by omega)).mono ?_
        rintro e w2 ⟨v2, hv2, rfl, q2, hq3, hq4, hrd2, hgr2⟩
        have hgr3 := grown_trans hgr hgr2
        clear hgr hgr2 hrd
        by_cases h0 : v2 = 0
        · have q3 : ((v2 : Int) == 0) = true := by simp; omega
          clear h0
          go_wp2_with fail
          go_ret
          exact ⟨out, by omega, rfl, q2, by omega, by omega, hrd2, hgr3⟩
        · have q3 : ((v2 : Int) == 0) = false := by simp; omega
          clear h0
          go_wp2_with fail
          refine (pick_any B g A len cap q2 out.size w2 hrd2 (by omega) (by omega) (by omega)).mono ?_
          rintro e w3 ⟨v3, hv3, rfl, q3', hq5, hq6, hrd3, hgr4⟩
          have hgr5 := grown_trans hgr3 hgr4
          clear hgr3 hgr4 hrd2
          have hlt3 := hrd3.lt
          have i1 : (0 : Int) ≤ (v3 : Int) := by omega
          have i2 : (v3 : Int) ≤ (out.size : Int) := by omega
          have hx1 : (out.extract 0 v3).size ≤ 18 := by rw [ByteArray.size_extract]; omega
          go_wp2_with fail
          have HOF := Lib.hid (tear_of B g A len cap q3' w3 hrd3 (by omega))
          go_region_held3 (fun _ => True) (trivial) (first | (go_at_call 48; refine HOF.out.mono ?_; rintro e w4 ⟨t, ht8, rfl, q4', hq7, hq8, hrd4, hgr6⟩; have z1 : ¬ 9223372036854775807 < min v3 out.size + t.size := (by omega)) | (go_at_call 43; refine (pick_any B g A len cap q4' 2 _ hrd4 (by omega) (by omega) (by omega)).mono ?_; rintro e w5 ⟨v5, hv5, rfl, q5', hq9, hq10, hrd5, hgr7⟩; have w5' : IntKind.i64.wrap ((v3 : Int) + (v5 : Int)) = (v3 : Int) + (v5 : Int) := IntWalk.i64_in _ (by omega); have i5 : (0 : Int) ≤ (v3 : Int) + (v5 : Int) := (by omega); have i6 : (v3 : Int) + (v5 : Int) ≤ (out.size : Int) := (by omega); have i7 : ((v3 : Int) + (v5 : Int)).toNat = v3 + v5 := (by omega); have z2 : ¬ 9223372036854775807 < min v3 out.size + t.size + (out.size - (v3 + v5)) := (by omega)))
          go_wp2_with fail
          go_ret
          refine ⟨_, ?_, rfl, q5', by omega, by omega, hrd5, grown_trans (grown_trans hgr5 hgr6) hgr7⟩
          rw [ByteArray.size_append, ByteArray.size_append, ByteArray.size_extract, ByteArray.size_extract]
          omega
    · have hkp : 0 < (k : Int) := by omega
      go_wp2_with fail
      refine (l2Num_any B g A len cap q wr hrd (by omega)).mono ?_
      rintro e w2 ⟨z, hz1, hz2, rfl, q2, hq3, hq4, hrd2, hgr2⟩
      go_wp2_with fail
      refine (specNumText_any z w2).mono ?_
      rintro e w' ⟨rfl, rfl⟩
      have hnl : (numT z).size ≤ 6 := by rw [numT_size]; exact numL_length z
      generalize numT z = t at *
      go_wp2_with fail
      go_roundw
      case rel => exact ⟨k - 1, q2, out ++ t, by go_num, rfl, by omega, by rw [ByteArray.size_append]; omega, by omega, by omega, hrd2, grown_trans hgr hgr2⟩
      case measure => simp [intOf]; omega
theorem drawNumsRead_any (A : Option Addr) (len cap : Nat) (w : World) (h : InCode w A len cap) :
    Calls Try.prog 17 #[.slice A len cap] w (DrawnStr 40 w) := by
  have HO := Lib.hid (open_any A len cap w h)
  clear h
  go_enter Try.func17, Try.ntmps17
  go_wp2_with fail
  refine HO.out.mono ?_
  rintro e w1 ⟨A', len', cap', rfl, hrd, hb1⟩
  go_wp2_with fail
  refine (l2Torn_any _ _ _ _ _ _ w1 hrd (by omega)).mono ?_
  rintro e w2 ⟨s, hs, rfl, hrd2⟩
  go_wp2_with fail
  go_ret
  exact ⟨s, hs, rfl, hb1.trans (hrd2.below (Nat.le_refl _) hb1.size)⟩
/-- Letters and a byte were drawn. -/
def DrawnStrInt (most : Nat) (lo hi : Int) (w : World) (e : Ending) (w' : World) : Prop := ∃ (s : ByteArray) (z : Int), s.size ≤ most ∧ lo ≤ z ∧ z ≤ hi ∧ e = .returned (.tuple #[.string s, .int .i64 z]) ∧ Below w.heap.size w w'
set_option maxHeartbeats 400000 in
theorem drawNumRead_any (A : Option Addr) (len cap : Nat) (w : World) (h : InCode w A len cap) :
    Calls Try.prog 19 #[.slice A len cap] w (DrawnStrInt 40 (-1) 41 w) := by
  have HO := Lib.hid (open_any A len cap w h)
  clear h
  go_enter Try.func19, Try.ntmps19
  go_wp2_with fail
  refine HO.out.mono ?_
  rintro e w1 ⟨A', len', cap', rfl, hrd, hb1⟩
  go_wp2_with fail
  refine (l2Torn_any _ _ _ _ _ _ w1 hrd (by omega)).mono ?_
  rintro e w2 ⟨s, hs, rfl, hrd2⟩
  have hB2 : Below w.heap.size w w2 := hb1.trans (hrd2.below (Nat.le_refl _) hb1.size)
  obtain ⟨q, hq1, hq2, hrq, _⟩ := hrd2
  go_wp2_with fail
  have hpk := pick_any _ _ _ _ _ q (s.size + 2) w2 hrq (by omega) (by omega) (by omega)
  rw [show ((s.size + 2 : Nat) : Int) = (s.size : Int) + 2 from by omega] at hpk
  refine hpk.mono ?_
  clear hpk
  rintro e w3 ⟨v, hv, rfl, hrd3⟩
  have hB3 : Below w.heap.size w w3 := hB2.trans (hrd3.below (Nat.le_refl _) hB2.size)
  obtain ⟨q3, hq3, hq4, hrq3, _⟩ := hrd3
  go_wp2_with fail
  refine (pick_any _ _ _ _ _ q3 9 w3 hrq3 (by omega) (by omega) (by omega)).mono ?_
  rintro e w4 ⟨v4, hv4, rfl, hrd4⟩
  have hB4 : Below w.heap.size w w4 := hB3.trans (hrd4.below (Nat.le_refl _) hB3.size)
  go_wp2_with fail
  go_ret2
  exact ⟨s, (v : Int) - (v4 : Int) / 8, hs, by omega, by omega, rfl, hB4⟩
/-- Numbers were drawn: a list of one's own. -/
def DrawnNums (w : World) (e : Ending) (w' : World) : Prop :=
  ∃ (v : Value) (zs : List Int), zs.length ≤ 4 ∧ (∀ z ∈ zs, -1000001 ≤ z ∧ z ≤ 1000001) ∧ e = .returned v ∧ w'.ownsRow w.heap.size 3 1 v zs.length (zs.map intV) ∧ Below w.heap.size w w'
set_option maxRecDepth 100000 in
set_option maxHeartbeats 1000000 in
theorem drawNumsText_any (A : Option Addr) (len cap : Nat) (w : World) (h : InCode w A len cap) :
    Calls Try.prog 21 #[.slice A len cap] w (DrawnNums w) := by
  obtain ⟨i0, hi, hz0, hz1, hz2⟩ := info_parts infoInt
  have HO := Lib.hid (open_any A len cap w h)
  clear h
  go_enter Try.func21, Try.ntmps21
  go_wp2_with fail
  refine HO.out.mono ?_
  rintro e w1 ⟨A', len', cap', rfl, hrd, hb1⟩
  clear HO
  have hlt1 := hrd.lt
  go_wp2_with fail
  refine (pick_any _ _ _ _ _ 0 5 _ (hrd.alloc _) (by omega) (by omega) (by omega)).mono ?_
  rintro e w2 ⟨v2, hv2, rfl, q2, hq2, hq2', hrd2, hgr2⟩
  have hrow2 : w2.ownsRow w.heap.size 3 1 (.slice (some ⟨w1.heap.size, 0, none⟩) 0 0) 0 (([] : List Int).map intV) :=
    ((ownsRow_empty w1 3).mono hb1.size).kept hgr2 (.inr (by simp [Value.ownBlock]; omega))
  have hB2 : Below w.heap.size w w2 := (hb1.alloc hb1.size _).trans (grown_below hgr2 (Nat.le_refl _) (by simp; omega))
  have hne2 : (Value.slice (some ⟨w1.heap.size, 0, none⟩) 0 0).ownBlock ≠ some w.heap.size := by simp [Value.ownBlock]; omega
  have hg2 := hrd2.lt
  clear hgr2 hrd hb1
  go_wp2_with fail
  go_loopw [4, 5] (fun v i wr => ∃ (k q : Nat) (zs : List Int), i = .int .i64 k ∧ zs.length + k ≤ 4 ∧ q ≤ 1000 - 100 * k ∧ (∀ z ∈ zs, -1000001 ≤ z ∧ z ≤ 1000001) ∧ wr.ownsRow w.heap.size 3 1 v zs.length (zs.map intV) ∧ v.ownBlock ≠ some w.heap.size ∧ Rd wr w.heap.size w.heap.size A' len' cap' q ∧ Below w.heap.size w wr)
    (fun _ i _ => (intOf i).toNat)
  case atStart => exact ⟨v2, q2, [], rfl, by simp; omega, by omega, by simp, hrow2, hne2, hrd2, hB2⟩
  case round =>
    clear hrow2 hne2 hrd2 hB2 hq2 hq2'
    obtain ⟨k, q, zs, rfl, hsk, hq, hall, hrow, hne, hrdr, hB⟩ := hrel
    have HALL := Lib.hid hall
    have HROW := Lib.hid hrow
    have HNE := Lib.hid hne
    clear hall hrow hne
    by_cases hk0 : k = 0
    · subst hk0
      go_wp2_with fail
      go_ret
      exact ⟨_, zs, by omega, HALL.out, rfl, HROW.out, hB⟩
    · have hkp : 0 < (k : Int) := by omega
      go_wp2_with fail
      refine (l2Num_any _ _ _ _ _ q wr hrdr (by omega)).mono ?_
      rintro e w3 ⟨t, ht1, ht2, rfl, q3, hq3, hq3', hrd3, hgr3⟩
      have hown := HROW.out.kept hgr3 (.inr HNE.out)
      have hB3 : Below w.heap.size w w3 := hB.trans (grown_below hgr3 (Nat.le_refl _) hB.size)
      have hg3 := hrd3.lt
      go_wp2_with (at_builtin; refine wpList_append_own_at _ rfl _ _ 31 rfl w.heap.size 3 i0 (.int .i64 0) 1 8 Try.underlying31 hi hz0 hz1 hz2 rfl (by decide) _ _ _ rfl (hown.alloc _) ⟨w3.heap.size, 0, none⟩ 1 1 [.int .i64 t] rfl rfl (cell_one_new _ _ _) (by simp [Value.oneCell']) (by unfold maxLen; omega) (by omega) (by have := hB3.size; simp; omega) ?_; intro v' w4 hown' hgrow _ hat)
      go_roundw
      case rel =>
        refine ⟨k - 1, q3, zs ++ [t], by go_num, by simp; omega, by omega, ?_, by rw [List.map_append, List.length_append]; exact hown', row_apart HNE.out hat hg3, ?_, below_append hB3 hB3.size hown hgrow⟩
        · intro s hs
          rcases List.mem_append.1 hs with h | h
          · exact HALL.out s h
          · obtain rfl : s = t := by simpa using h
            exact ⟨ht1, ht2⟩
        · exact Rd.kept (hrd3.alloc _) hgrow HNE.out (hown.alloc _) (Nat.le_refl _)
      case measure => simp [intOf]; omega

end Go.Proofs.Ytfppmckhpamloaa
