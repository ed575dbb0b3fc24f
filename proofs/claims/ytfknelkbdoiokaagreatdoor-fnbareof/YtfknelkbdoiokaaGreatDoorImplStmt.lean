/-
  The contracts of the program's StmtOk and StmtText.
-/
import Derived.Test.YtfknelkbdoiokaaGreatDoorDeedOf
namespace Go.Proofs.YtfknelkbdoiokaaGreatDoor
open Go.RowKit

set_option maxRecDepth 100000 in
set_option maxHeartbeats 4000000 in
theorem stmtOk_any (s : St) (A1 A2 : Option Addr) (c1 c2 B : Nat) (a : Addr) (w : World) (hA1 : KidsU w B A1 s.e.kids) (hA2 : KidsU w B A2 s.t.kids) (hc1 : s.e.kids.length ≤ c1) (hc2 : s.t.kids.length ≤ c2) (hB : B ≤ w.heap.size) (hwt : s.wt ≤ 2 ^ 29) (hL : LaidW w) (hN : LaidN w a) :
    Calls Tryz.prog 20 #[.agg #[.int .i64 s.kind, .string s.name, .string s.typ, .int .i64 s.e.kind, .int .i64 s.e.n, .string s.e.s, .slice A1 s.e.kids.length c1, .int .i64 s.t.kind, .int .i64 s.t.n, .string s.t.s, .slice A2 s.t.kids.length c2]] w fun r w' => r = .returned (.bool (doS s).isSome) ∧ Below w.heap.size w w' := by
  obtain ⟨W0, hW0⟩ : ∃ W0, W0 = w.alloc (.cells #[.int .i64 s.kind, .string s.name, .string s.typ, .int .i64 s.e.kind, .int .i64 s.e.n, .string s.e.s, .slice A1 s.e.kids.length c1, .int .i64 s.t.kind, .int .i64 s.t.n, .string s.t.s, .slice A2 s.t.kids.length c2] 35) := ⟨_, rfl⟩
  have hb0 : Below w.heap.size w W0 := by rw [hW0]; exact (Below.refl _ w).alloc (Nat.le_refl _) _
  have HD := Lib.hid (deedOf_any s A1 A2 c1 c2 B a W0 (hA1.keep (hb0.mono hB)) (hA2.keep (hb0.mono hB)) hc1 hc2 (Nat.le_trans hB hb0.size) hwt (hL.below hb0) (hN.below hb0))
  have HLN := Lib.hid hN
  have HL := Lib.hid hL
  clear hA1 hA2 hL hN
  go_enter Tryz.func20, Tryz.ntmps20
  go_wp2_with fail
  rw [← hW0]
  clear hW0
  refine HD.out.mono ?_
  rintro r w1 ⟨hb1, (⟨d, hd, rfl⟩ | ⟨hd, rfl⟩)⟩
  · have hb01 := hb0.trans (hb1.mono hb0.size)
    have g0 := (HLN.out.below hb01).cell
    have HDS := Lib.hid hd
    have HI := Lib.hid (is_nil a w1)
    unfold deV
    generalize deT d = t1 at *
    generalize deU d = u1 at *
    clear hd HD
    go_wp2_with fail
    refine HI.out.mono ?_
    rintro r w2 ⟨rfl, rfl⟩
    go_wp2_with fail
    go_ret
    exact ⟨ret_bool (by rw [HDS.out]; rfl), hb01⟩
  · have hb01 := hb0.trans (hb1.mono hb0.size)
    have g0 := (HLN.out.below hb01).cell
    have HDS := Lib.hid hd
    have HI := Lib.hid (is_same a w1)
    unfold errV
    clear hd HD
    go_wp2_with fail
    refine HI.out.mono ?_
    rintro r w2 ⟨rfl, rfl⟩
    go_wp2_with fail
    go_ret
    exact ⟨ret_bool (by rw [HDS.out]; rfl), hb01⟩
/-- The text of a line that is ok, the empty text of another one. -/
def textS (s : St) : ByteArray := match doS s with
  | some d => d.text
  | none => ByteArray.empty
set_option maxRecDepth 100000 in
set_option maxHeartbeats 4000000 in
theorem stmtText_any (s : St) (A1 A2 : Option Addr) (c1 c2 B : Nat) (a : Addr) (w : World) (hA1 : KidsU w B A1 s.e.kids) (hA2 : KidsU w B A2 s.t.kids) (hc1 : s.e.kids.length ≤ c1) (hc2 : s.t.kids.length ≤ c2) (hB : B ≤ w.heap.size) (hwt : s.wt ≤ 2 ^ 29) (hL : LaidW w) (hN : LaidN w a) :
    Calls Tryz.prog 17 #[.agg #[.int .i64 s.kind, .string s.name, .string s.typ, .int .i64 s.e.kind, .int .i64 s.e.n, .string s.e.s, .slice A1 s.e.kids.length c1, .int .i64 s.t.kind, .int .i64 s.t.n, .string s.t.s, .slice A2 s.t.kids.length c2]] w fun r w' => r = .returned (.string (textS s)) ∧ Below w.heap.size w w' := by
  obtain ⟨W0, hW0⟩ : ∃ W0, W0 = w.alloc (.cells #[.int .i64 s.kind, .string s.name, .string s.typ, .int .i64 s.e.kind, .int .i64 s.e.n, .string s.e.s, .slice A1 s.e.kids.length c1, .int .i64 s.t.kind, .int .i64 s.t.n, .string s.t.s, .slice A2 s.t.kids.length c2] 35) := ⟨_, rfl⟩
  have hb0 : Below w.heap.size w W0 := by rw [hW0]; exact (Below.refl _ w).alloc (Nat.le_refl _) _
  have HD := Lib.hid (deedOf_any s A1 A2 c1 c2 B a W0 (hA1.keep (hb0.mono hB)) (hA2.keep (hb0.mono hB)) hc1 hc2 (Nat.le_trans hB hb0.size) hwt (hL.below hb0) (hN.below hb0))
  have HLN := Lib.hid hN
  have HL := Lib.hid hL
  clear hA1 hA2 hL hN
  go_enter Tryz.func17, Tryz.ntmps17
  go_wp2_with fail
  rw [← hW0]
  clear hW0
  refine HD.out.mono ?_
  rintro r w1 ⟨hb1, (⟨d, hd, rfl⟩ | ⟨hd, rfl⟩)⟩
  · have hb01 := hb0.trans (hb1.mono hb0.size)
    have g0 := (HLN.out.below hb01).cell
    have HDS := Lib.hid (show textS s = d.text by unfold textS; rw [hd])
    have HI := Lib.hid (is_nil a w1)
    have HT := Lib.hid (deedText_any d (doS_some hd).1 w1 (HL.out.below hb01))
    unfold deV at HT ⊢
    generalize deT d = t1 at *
    generalize deU d = u1 at *
    clear hd HD
    go_wp2_with fail
    refine HI.out.mono ?_
    rintro r w2 ⟨rfl, rfl⟩
    go_wp2_with fail
    refine HT.out.mono ?_
    rintro r w3 ⟨rfl, hb3⟩
    go_wp2_with fail
    go_ret
    exact ⟨ret_str HDS.out.symm, hb01.trans (hb3.mono hb01.size)⟩
  · have hb01 := hb0.trans (hb1.mono hb0.size)
    have g0 := (HLN.out.below hb01).cell
    have HDS := Lib.hid (show textS s = ByteArray.empty by unfold textS; rw [hd])
    have HI := Lib.hid (is_same a w1)
    unfold errV
    clear hd HD
    go_wp2_with fail
    refine HI.out.mono ?_
    rintro r w2 ⟨rfl, rfl⟩
    go_wp2_with fail
    go_ret
    exact ⟨ret_str HDS.out.symm, hb01⟩
end Go.Proofs.YtfknelkbdoiokaaGreatDoor
