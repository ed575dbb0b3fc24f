/-
  The contracts of the program's partOf and ExprOk, for all that can be read.
-/
import Derived.Test.YtabignplhkbcpaaGreatDoorPartEx
namespace Go.Proofs.YtabignplhkbcpaaGreatDoor
open Go.RowKit

/-- What partOf tells. -/
def PartOf (e : Ex) (w : World) (r : Ending) (w' : World) : Prop :=
  ∃ v, r = .returned (.tuple #[v, .bool (okE e)]) ∧ (∀ p, okP e = some p → v = partV p) ∧ Below w.heap.size w w'

set_option maxHeartbeats 1000000 in
theorem partOf_any (e : Ex) (A : Option Addr) (c B : Nat) (w : World) (hA : KidsAt w B A e.kids) (hc : e.kids.length ≤ c) (hB : B ≤ w.heap.size) (hw : e.wt ≤ 2 ^ 40) :
    Calls Tryz.prog 48 #[.agg #[.int .i64 e.kind, .int .i64 e.n, .string e.s, .slice A e.kids.length c]] w (PartOf e w) := by
  obtain ⟨k, n, s, ks⟩ := e
  simp only [Ex.kind, Ex.n, Ex.s, Ex.kids, Ex.wt] at hA hc hw ⊢
  obtain ⟨W1, hW1⟩ : ∃ W1, W1 = (w.alloc (.cells #[.int .i64 k, .int .i64 n, .string s, .slice A ks.length c] 34)).alloc (.cells #[.int .i64 12] 109) := ⟨_, rfl⟩
  have hb0 : Below w.heap.size w W1 := by rw [hW1]; exact ((Below.refl _ w).alloc (Nat.le_refl _) _).alloc (by simp) _
  have hX : Boxed W1 (w.heap.size + 1) 109 (.int .i64 12) := by
    have := Boxed.new (w.alloc (.cells #[.int .i64 k, .int .i64 n, .string s, .slice A ks.length c] 34)) 109 (.int .i64 12)
    rw [World.size_alloc, ← hW1] at this
    exact this
  have HC := Lib.hid (part_any 5 0 k n s ks A c B (w.heap.size + 1) 12 W1 (by omega) (hA.keep (hb0.mono hB)) hc (by omega) hX (by omega) (by simp [dn]) (by omega) (by omega))
  have hl : ks.length ≤ 2 ^ 40 := Nat.le_trans (Ex.wts_length ks) (by omega)
  clear hA
  go_enter Tryz.func48, Tryz.ntmps48
  go_wp2_with fail
  rw [← hW1]
  refine HC.out.mono ?_
  rintro e w1 ⟨v, ok, n', rfl, _, hX1, hg1, _, _, y1, y2⟩
  have Y1 := Lib.hid y1
  have Y2 := Lib.hid y2
  have HB := Lib.hid (hb0.trans (gb_below hg1 (Nat.le_succ _) hb0.size))
  clear y1 y2 hX1 hg1 HC hW1
  go_wp2_with fail
  go_ret2
  cases ok
  · have h1 : okE (.mk k n s ks) = false := by
      unfold okE
      rcases Y2.out rfl with h | h
      · rw [h]; rfl
      · rw [decide_eq_false (by omega)]; simp
    rw [← h1]
    refine ⟨v, rfl, fun p hp => ?_, HB.out⟩
    rw [← okP_isSome, hp] at h1
    cases h1
  · obtain ⟨p, hp, rfl, hn, h0⟩ := Y1.out rfl
    have hn12 : (Ex.mk k n s ks).nodes ≤ 12 := by
      have e := (ptOf_ex _ _ _ hp).1
      rw [e, Pt.nodes_ex]; omega
    have h2 : okP (.mk k n s ks) = some p := by unfold okP; rw [if_pos hn12, hp]
    have h1 : okE (.mk k n s ks) = true := by rw [← okP_isSome, h2]; rfl
    rw [← h1]
    refine ⟨_, rfl, fun q hq => ?_, HB.out⟩
    rw [h2] at hq
    cases hq; rfl
end Go.Proofs.YtabignplhkbcpaaGreatDoor
