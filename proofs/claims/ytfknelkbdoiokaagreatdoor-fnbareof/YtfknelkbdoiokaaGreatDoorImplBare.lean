/-
  The contracts of the program's BareOk and BareText.
-/
import Derived.Test.YtfknelkbdoiokaaGreatDoorBareLineOf
namespace Go.Proofs.YtfknelkbdoiokaaGreatDoor
open Go.RowKit

set_option linter.unusedVariables false in
set_option maxRecDepth 100000 in
set_option maxHeartbeats 4000000 in
theorem bareOk_any (s : Br) (A1 A2 : Option Addr) (c1 c2 B : Nat) (w : World) (hA1 : KidsU w B A1 s.e.kids) (hA2 : KidsU w B A2 s.t.kids) (hc1 : s.e.kids.length ≤ c1) (hc2 : s.t.kids.length ≤ c2) (hB : B ≤ w.heap.size) (hwt : s.wt ≤ 2 ^ 29) (hL : LaidW w) :
    Calls Tryz.prog 33 #[.agg #[.int .i64 s.kind, .string s.name, .int .i64 s.e.kind, .int .i64 s.e.n, .string s.e.s, .slice A1 s.e.kids.length c1, .int .i64 s.t.kind, .int .i64 s.t.n, .string s.t.s, .slice A2 s.t.kids.length c2]] w fun r w' => r = .returned (.bool (boS s).isSome) ∧ Below w.heap.size w w' := by
  obtain ⟨W0, hW0⟩ : ∃ W0, W0 = w.alloc (.cells #[.int .i64 s.kind, .string s.name, .int .i64 s.e.kind, .int .i64 s.e.n, .string s.e.s, .slice A1 s.e.kids.length c1, .int .i64 s.t.kind, .int .i64 s.t.n, .string s.t.s, .slice A2 s.t.kids.length c2] 52) := ⟨_, rfl⟩
  have hb0 : Below w.heap.size w W0 := by rw [hW0]; exact (Below.refl _ w).alloc (Nat.le_refl _) _
  have HD := Lib.hid (bareLineOf_any s A1 A2 c1 c2 B W0 (hA1.keep (hb0.mono hB)) (hA2.keep (hb0.mono hB)) hc1 hc2 (Nat.le_trans hB hb0.size) hwt (hL.below hb0))
  have HL := Lib.hid hL
  clear hA1 hA2 hL
  go_enter Tryz.func33, Tryz.ntmps33
  go_wp2_with fail
  rw [← hW0]
  clear hW0
  refine HD.out.mono ?_
  rintro r w1 ⟨hb1, (⟨d, hd, rfl⟩ | ⟨hd, v1, rfl⟩)⟩
  · have hb01 := hb0.trans (hb1.mono hb0.size)
    have HDS := Lib.hid hd
    clear hd HD
    go_wp2_with fail
    go_ret
    exact ⟨ret_bool (by rw [HDS.out]; rfl), hb01⟩
  · have hb01 := hb0.trans (hb1.mono hb0.size)
    have HDS := Lib.hid hd
    clear hd HD
    go_wp2_with fail
    go_ret
    exact ⟨ret_bool (by rw [HDS.out]; rfl), hb01⟩
/-- The text of a line that is ok, the empty text of another one. -/
def textB (s : Br) : ByteArray := match boS s with
  | some d => d.text
  | none => ByteArray.empty
set_option maxRecDepth 100000 in
set_option maxHeartbeats 4000000 in
theorem bareText_all (s : Br) (A1 A2 : Option Addr) (c1 c2 B : Nat) (w : World) (hA1 : KidsU w B A1 s.e.kids) (hA2 : KidsU w B A2 s.t.kids) (hc1 : s.e.kids.length ≤ c1) (hc2 : s.t.kids.length ≤ c2) (hB : B ≤ w.heap.size) (hwt : s.wt ≤ 2 ^ 29) (hL : LaidW w) :
    Calls Tryz.prog 32 #[.agg #[.int .i64 s.kind, .string s.name, .int .i64 s.e.kind, .int .i64 s.e.n, .string s.e.s, .slice A1 s.e.kids.length c1, .int .i64 s.t.kind, .int .i64 s.t.n, .string s.t.s, .slice A2 s.t.kids.length c2]] w fun r w' => r = .returned (.string (textB s)) ∧ Below w.heap.size w w' := by
  obtain ⟨W0, hW0⟩ : ∃ W0, W0 = w.alloc (.cells #[.int .i64 s.kind, .string s.name, .int .i64 s.e.kind, .int .i64 s.e.n, .string s.e.s, .slice A1 s.e.kids.length c1, .int .i64 s.t.kind, .int .i64 s.t.n, .string s.t.s, .slice A2 s.t.kids.length c2] 52) := ⟨_, rfl⟩
  have hb0 : Below w.heap.size w W0 := by rw [hW0]; exact (Below.refl _ w).alloc (Nat.le_refl _) _
  have HD := Lib.hid (bareLineOf_any s A1 A2 c1 c2 B W0 (hA1.keep (hb0.mono hB)) (hA2.keep (hb0.mono hB)) hc1 hc2 (Nat.le_trans hB hb0.size) hwt (hL.below hb0))
  have HL := Lib.hid hL
  clear hA1 hA2 hL
  go_enter Tryz.func32, Tryz.ntmps32
  go_wp2_with fail
  rw [← hW0]
  clear hW0
  refine HD.out.mono ?_
  rintro r w1 ⟨hb1, (⟨d, hd, rfl⟩ | ⟨hd, v1, rfl⟩)⟩
  · have hb01 := hb0.trans (hb1.mono hb0.size)
    have HDS := Lib.hid (show textB s = d.text by unfold textB; rw [hd])
    have HT := Lib.hid (bareText_any d (boS_some hd).1 w1 (HL.out.below hb01))
    unfold baV at HT ⊢
    generalize baT d = t1 at *
    generalize baU d = u1 at *
    clear hd HD
    go_wp2_with fail
    refine HT.out.mono ?_
    rintro r w3 ⟨rfl, hb3⟩
    go_wp2_with fail
    go_ret
    exact ⟨ret_str HDS.out.symm, hb01.trans (hb3.mono hb01.size)⟩
  · have hb01 := hb0.trans (hb1.mono hb0.size)
    have HDS := Lib.hid (show textB s = ByteArray.empty by unfold textB; rw [hd])
    clear hd HD
    go_wp2_with fail
    go_ret
    exact ⟨ret_str HDS.out.symm, hb01⟩
end Go.Proofs.YtfknelkbdoiokaaGreatDoor
