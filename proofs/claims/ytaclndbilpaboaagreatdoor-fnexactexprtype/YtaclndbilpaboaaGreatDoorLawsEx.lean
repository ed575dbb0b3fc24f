/-
  The contracts of the helpers of the exact laws over what is reckoned: how much it holds, a copy of one's own, whether two are one.
-/
import Derived.Test.YtaclndbilpaboaaGreatDoorExs
import Derived.Test.YtaclndbilpaboaaGreatDoorSpecEx
namespace Go.Proofs.YtaclndbilpaboaaGreatDoor
open Go.RowKit

mutual
/-- No text and no list is longer than can be. -/
def Ex.fits : Ex → Prop
  | .mk _ _ s ks => s.size ≤ maxLen ∧ ks.length ≤ maxLen ∧ Ex.fitss ks
def Ex.fitss : List Ex → Prop
  | [] => True
  | e :: es => e.fits ∧ Ex.fitss es
end
theorem Ex.fits_mem {x : Ex} {xs : List Ex} (h : Ex.fitss xs) (hx : x ∈ xs) : x.fits := by
  induction xs with
  | nil => cases hx
  | cons y ys ih =>
    simp only [Ex.fitss] at h
    rcases List.mem_cons.1 hx with rfl | hx
    · exact h.1
    · exact ih h.2 hx
theorem Ex.wts_take (ks : List Ex) (j : Nat) (h : j < ks.length) : Ex.wts (ks.take (j + 1)) = Ex.wts (ks.take j) + (1 + ks[j].wt) := by
  rw [List.take_succ_eq_append_getElem h, Ex.wts_append]; simp [Ex.wts]

/-- What is left is told, and it tells that there is not too much. -/
def LeftE (n : Nat) (left : Int) (w : World) (e : Ending) (w' : World) : Prop :=
  ∃ r : Int, e = .returned (.int .i64 r) ∧ (0 ≤ r → r + (n : Int) = left) ∧ r ≤ left ∧ Below w.heap.size w w'

set_option maxRecDepth 100000 in
set_option maxHeartbeats 4000000 in
theorem szExpr_any (e : Ex) : ∀ (A : Option Addr) (c B : Nat) (left : Int) (w : World), e.fits → KidsAt w B A e.kids → e.kids.length ≤ c → B ≤ w.heap.size → 0 ≤ left → left ≤ 2 ^ 40 →
    Calls Tryz.prog 7 #[.agg #[.int .i64 e.kind, .int .i64 e.n, .string e.s, .slice A e.kids.length c], .int .i64 left] w (LeftE e.wt left w) := by
  induction e using Ex.ind with
  | h k n s ks ih =>
    intro A c B left w hfit hA hc hB h0 h1
    simp only [Ex.kind, Ex.n, Ex.s, Ex.kids, Ex.wt] at hA hc ⊢
    simp only [Ex.fits] at hfit
    obtain ⟨hs, hm, hfs⟩ := hfit
    unfold maxLen at hs hm
    have hb0 : Below w.heap.size w (w.alloc (.cells #[.int .i64 k, .int .i64 n, .string s, .slice A ks.length c] 24)) := (Below.refl _ w).alloc (Nat.le_refl _) _
    have HA := Lib.hid hA
    have HI := Lib.hid ih
    have HFS := Lib.hid hfs
    clear hA ih hfs
    -- the list of kids
    have HS := Lib.hid (show ∀ (left : Int) (W : World), Below w.heap.size w W → 0 ≤ left → left ≤ 2 ^ 40 → Calls Tryz.prog 21 #[.slice A ks.length c, .int .i64 left] W (LeftE (Ex.wts ks) left W) by
      intro left W hW h0 h1
      by_cases hbig : left < ks.length
      · have q1 : left - (ks.length : Int) < 0 := by omega
        go_enter Tryz.func21, Tryz.ntmps21
        go_wp2_with fail
        go_ret
        exact ⟨_, rfl, fun h => absurd h (by decide), by omega, Below.refl _ _⟩
      · have q1 : ¬ (left - (ks.length : Int) < 0) := by omega
        go_enter Tryz.func21, Tryz.ntmps21
        go_wp2_with fail
        go_loopw [1, 5] (fun d i wr => ∃ (j : Nat) (r : Int), j ≤ ks.length ∧ 0 ≤ r ∧ i = .int .i64 j ∧ d = .int .i64 r ∧ r + (Ex.wts (ks.take j) : Int) + ((ks.length - j : Nat) : Int) = left ∧ Below W.heap.size W wr) (fun _ i _ => ks.length - (intOf i).toNat)
        case atStart => exact ⟨0, left - ks.length, Nat.zero_le _, by omega, rfl, rfl, by simp [Ex.wts], Below.refl _ _⟩
        case round =>
          obtain ⟨j, r, hj, hr0, rfl, rfl, heq, hBw⟩ := hrel
          have hBB := hW.trans (hBw.mono hW.size)
          by_cases hlt : j < ks.length
          · obtain ⟨g, off, D, c', eA, hg, kid⟩ := (HA.out.keep (hBB.mono hB)).at_ hlt
            subst eA
            have hts := Ex.wts_take ks j hlt
            have hft := Ex.fits_mem HFS.out (List.getElem_mem hlt)
            have hrl : r ≤ left := by omega
            have HC := Lib.hid (HI.out ks[j] (List.getElem_mem hlt) D c' B r wr hft kid.hk kid.hc (Nat.le_trans hB hBB.size) hr0 (by omega))
            generalize ks[j] = x at *
            obtain ⟨k', n', s', ks'⟩ := x
            obtain ⟨c0, c1, c2, c3, hcc, hkk⟩ := kid
            simp only [Ex.kind, Ex.n, Ex.s, Ex.kids] at c0 c1 c2 c3 hcc HC
            have HQ := Lib.hid heq
            have HTS := Lib.hid hts
            have hx : (j : Int) < (ks.length : Int) := by omega
            clear heq hts hkk hft
            go_wp2_with fail
            refine HC.out.mono ?_
            rintro e w1 ⟨r1, rfl, hr1, hr1l, hb1⟩
            by_cases hneg : r1 < 0
            · go_wp2_with fail
              go_ret
              exact ⟨_, rfl, fun h => absurd h (by decide), by omega, hBw.trans (hb1.mono hBw.size)⟩
            · have hr1e := hr1 (by omega)
              have HR := Lib.hid hr1e
              clear hr1 hr1e HC
              go_wp2_with fail
              go_roundw
              case rel => exact ⟨j + 1, r1, by omega, by omega, by go_num, rfl, by have := HQ.out; have := HTS.out; have := HR.out; omega, hBw.trans (hb1.mono hBw.size)⟩
              case measure => simp [intOf]; omega
          · have HQ := Lib.hid heq
            clear heq
            go_wp2_with fail
            go_ret
            refine ⟨r, rfl, fun _ => ?_, ?_, hBw⟩
            · have := HQ.out
              rw [List.take_of_length_le (by omega)] at this
              omega
            · have := HQ.out
              omega)
    by_cases hneg : left - (s.size : Int) < 0
    · go_enter Tryz.func7, Tryz.ntmps7
      go_wp2_with fail
      go_ret
      exact ⟨_, rfl, fun h => absurd h (by decide), by omega, hb0⟩
    · have HC := Lib.hid (HS.out (left - s.size) _ hb0 (by omega) (by omega))
      go_enter Tryz.func7, Tryz.ntmps7
      go_wp2_with fail
      refine HC.out.mono ?_
      rintro e w1 ⟨r1, rfl, hr1, hr1l, hb1⟩
      by_cases hneg1 : r1 < 0
      · go_wp2_with fail
        go_ret
        exact ⟨_, rfl, fun h => absurd h (by decide), by omega, hb0.trans (hb1.mono hb0.size)⟩
      · have HR := Lib.hid (hr1 (by omega))
        clear hr1
        go_wp2_with fail
        go_ret
        exact ⟨r1, rfl, fun _ => by have := HR.out; omega, by omega, hb0.trans (hb1.mono hb0.size)⟩
end Go.Proofs.YtaclndbilpaboaaGreatDoor
