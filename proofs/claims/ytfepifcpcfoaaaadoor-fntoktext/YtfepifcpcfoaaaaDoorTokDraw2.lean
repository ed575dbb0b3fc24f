/-
  The contract of the model's DrawTokText, for all codes.
-/
import Derived.Test.YtfepifcpcfoaaaaDoorTokDraw
import Derived.Test.YtfepifcpcfoaaaaDoorStrs
namespace Go.Proofs.YtfepifcpcfoaaaaDoor
open Go.RowKit

/-- Words were drawn: a list of one's own. -/
def DrawnWords (w : World) (e : Ending) (w' : World) : Prop :=
  ∃ (v : Value) (zs : List ByteArray), zs.length ≤ 6 ∧ (∀ z ∈ zs, kindL (L z) ≠ 0 ∧ 1 ≤ z.size ∧ z.size ≤ 7) ∧ e = .returned v ∧ w'.ownsRow w.heap.size 9 1 v zs.length (zs.map strV) ∧ Below w.heap.size w w'
set_option maxRecDepth 100000 in
set_option maxHeartbeats 1000000 in
theorem drawTokText_any (A : Option Addr) (len cap : Nat) (w : World) (h : InCode w A len cap) :
    Calls Tryd.prog 18 #[.slice A len cap] w (DrawnWords w) := by
  obtain ⟨i0, hi, hz0, hz1, hz2⟩ := info_parts infoStr
  have HO := Lib.hid (open_any A len cap w h)
  clear h
  go_enter Tryd.func18, Tryd.ntmps18
  go_wp2_with fail
  refine HO.out.mono ?_
  rintro e w1 ⟨A', len', cap', rfl, hrd, hb1⟩
  clear HO
  have hlt1 := hrd.lt
  go_wp2_with fail
  refine (pick_any _ _ _ _ _ 0 7 _ (hrd.alloc _) (by omega) (by omega) (by omega)).mono ?_
  rintro e w2 ⟨v2, hv2, rfl, q2, hq2, hq2', hrd2, hgr2⟩
  have hrow2 : w2.ownsRow w.heap.size 9 1 (.slice (some ⟨w1.heap.size, 0, none⟩) 0 0) 0 (([] : List ByteArray).map strV) :=
    ((ownsRow_empty w1 9).mono hb1.size).kept hgr2 (.inr (by simp [Value.ownBlock]; omega))
  have hB2 : Below w.heap.size w w2 := (hb1.alloc hb1.size _).trans (grown_below hgr2 (Nat.le_refl _) (by simp; omega))
  have hne2 : (Value.slice (some ⟨w1.heap.size, 0, none⟩) 0 0).ownBlock ≠ some w.heap.size := by simp [Value.ownBlock]; omega
  have hg2 := hrd2.lt
  clear hgr2 hrd hb1
  go_wp2_with fail
  go_loopw [4, 5] (fun v i wr => ∃ (k q : Nat) (zs : List ByteArray), i = .int .i64 k ∧ zs.length + k ≤ 6 ∧ q ≤ 1000 - 100 * k ∧ (∀ z ∈ zs, kindL (L z) ≠ 0 ∧ 1 ≤ z.size ∧ z.size ≤ 7) ∧ wr.ownsRow w.heap.size 9 1 v zs.length (zs.map strV) ∧ v.ownBlock ≠ some w.heap.size ∧ Rd wr w.heap.size w.heap.size A' len' cap' q ∧ Below w.heap.size w wr)
    (fun _ i _ => (intOf i).toNat)
  case atStart => exact ⟨v2, q2, [], rfl, by simp; omega, by omega, by simp, hrow2, hne2, hrd2, hB2⟩
  case round =>
    clear hrow2 hne2 hrd2 hB2 hq2 hq2'
    obtain ⟨k, q, zs, rfl, hsk, hq, hall, hrow, hne, hrdr, hB⟩ := hrel
    have HALL := Lib.hid hall
    have HROW := Lib.hid hrow
    have HNE := Lib.hid hne
    clear hall hrow hne
    by_cases hk0 : k = 0
    · subst hk0
      go_wp2_with fail
      go_ret
      exact ⟨_, zs, by omega, HALL.out, rfl, HROW.out, hB⟩
    · have hkp : 0 < (k : Int) := by omega
      go_wp2_with fail
      refine (l3Some_any _ _ _ _ _ q wr hrdr (by omega)).mono ?_
      rintro e w3 ⟨t, ht, rfl, q3, hq3, hq3', hrd3, hgr3⟩
      have HT := Lib.hid ht
      clear ht
      have hown := HROW.out.kept hgr3 (.inr HNE.out)
      have hB3 : Below w.heap.size w w3 := hB.trans (grown_below hgr3 (Nat.le_refl _) hB.size)
      have hg3 := hrd3.lt
      go_wp2_with (at_builtin; refine wpList_append_own_at _ rfl _ _ 34 rfl w.heap.size 9 i0 (.string ByteArray.empty) 1 16 Tryd.underlying34 hi hz0 hz1 hz2 rfl (by decide) _ _ _ rfl (hown.alloc _) ⟨w3.heap.size, 0, none⟩ 1 1 [.string t] rfl rfl (cell_one_new _ _ _) (by simp [Value.oneCell']) (by unfold maxLen; omega) (by omega) (by have := hB3.size; simp; omega) ?_; intro v' w4 hown' hgrow _ hat)
      go_roundw
      case rel =>
        refine ⟨k - 1, q3, zs ++ [t], by go_num, by simp; omega, by omega, ?_, by rw [List.map_append, List.length_append]; exact hown', row_apart HNE.out hat hg3, ?_, below_append hB3 hB3.size hown hgrow⟩
        · intro s hs
          rcases List.mem_append.1 hs with h | h
          · exact HALL.out s h
          · obtain rfl : s = t := by simpa using h
            exact HT.out
        · exact Rd.kept (hrd3.alloc _) hgrow HNE.out (hown.alloc _) (Nat.le_refl _)
      case measure => simp [intOf]; omega
end Go.Proofs.YtfepifcpcfoaaaaDoor
