/-
  The contracts of impl.decimalOk, impl.TokOk and impl.TokKind, for all texts.
-/
import Derived.Test.YtabignplhkbcpaaGreatDoorGC
import Derived.Test.YtabignplhkbcpaaGreatDoorShelf
import Derived.WalkSmall
import Derived.Lib.AtoiErrMem
namespace Go.Proofs.YtabignplhkbcpaaGreatDoor
open Go.RowKit

/-- The library's table and its two errors are what their initialisers lay. -/
structure LaidW (w : World) : Prop where
  tab : Lib.TabIs Tryz.prog w "internal/strconv.uint64pow10" .u64 Lib.pow10Tab
  rng : ∃ tp p, w.var? Tryz.prog "strconv.ErrRange" = some #[.iface tp p]
  syn : ∃ tp p, w.var? Tryz.prog "strconv.ErrSyntax" = some #[.iface tp p]
theorem var_kept {P : Program} {W W' : World} {n : String} {cs : Array Value} (h : Below W.heap.size W W') (hv : W.var? P n = some cs) : W'.var? P n = some cs := by
  cases hg : P.globalNamed n with
  | none => simp [World.var?, hg] at hv
  | some g =>
    have hlt : g < W.heap.size := by
      rcases Nat.lt_or_ge g W.heap.size with h1 | h1
      · exact h1
      · simp [World.var?, hg, Array.getElem?_eq_none h1] at hv
    simp only [World.var?, hg, Option.bind_some] at hv ⊢
    rw [h.block g hlt]
    exact hv
theorem LaidW.below {w w' : World} (h : LaidW w) (hb : Below w.heap.size w w') : LaidW w' := by
  obtain ⟨h1, ⟨tp, p, h2⟩, ⟨tq, q, h3⟩⟩ := h
  exact ⟨var_kept hb h1, ⟨tp, p, var_kept hb h2⟩, ⟨tq, q, var_kept hb h3⟩⟩
theorem below_grows (w : World) (k : Nat) (os : Array Obj) : Below w.heap.size w (Sort.grow (w.drewN k) os) :=
  ⟨rfl, rfl, rfl, by simp [Sort.grow], fun i hi => by simp [Sort.grow, Array.getElem?_append, hi]⟩

theorem bytes_eq {l : List UInt8} {s : ByteArray} : (ByteArray.mk l.toArray).toList = s.toList ↔ l = L s := by
  rw [ByteArray.toList_eq, ByteArray.toList_eq]
  rfl

set_option maxRecDepth 100000 in
set_option maxHeartbeats 2000000 in
theorem decimalOk_any (s : ByteArray) (w : World) (hs : s.size ≤ 2 ^ 40) (hw : LaidW w) :
    Calls Tryz.prog 78 #[.string s] w fun e w' => e = .returned (.bool (decL (L s))) ∧ Below w.heap.size w w' := by
  rcases h : Lib.atoiAll s.data.toList with v | _ | _
  · have HD := Lib.hid (dec_ok (L s) v h)
    have HA := Lib.hid (Tryz.strconv_Atoi_ok s (by omega) v h w)
    have hvb := Lib.atoiAll_bounds h
    clear h
    by_cases h0 : 0 ≤ v ∧ v ≤ 1000000
    · have q0 : decide (0 ≤ v) = true := by simpa using h0.1
      have q1 : decide (v ≤ 1000000) = true := by simpa using h0.2
      go_enter Tryz.func78, Tryz.ntmps78
      go_wp2_with fail
      refine HA.out.mono ?_
      rintro e w1 ⟨rfl, hw1⟩
      have hb1 : Below w.heap.size w w1 := by
        rcases hw1 with rfl | ⟨t, rfl⟩
        · exact Below.refl _ _
        · exact Lib.bytesWorld_below w _ t
      clear hw1
      have HI := Lib.hid (Tryz.strconv_Itoa v (by omega) (by omega) w1 (hw.below hb1).tab)
      have HF := Lib.hid (show decL (L s) = ((ByteArray.mk (Lib.itoa v).toArray).toList == s.toList) by
        rw [HD.out, q0, q1]
        rw [Bool.true_and, Bool.true_and, Bool.eq_iff_iff, decide_eq_true_eq, beq_iff_eq, bytes_eq])
      generalize ByteArray.mk (Lib.itoa v).toArray = t at *
      clear HA HD
      go_wp2_with fail
      refine HI.out.mono ?_
      rintro e w2 ⟨rfl, k, os, hw2⟩
      have hb2 : Below w1.heap.size w1 w2 := by rw [hw2]; exact below_grows w1 k os
      clear hw2
      go_wp2_with fail
      go_ret
      exact ⟨ret_bool HF.out.symm, hb1.trans (hb2.mono hb1.size)⟩
    · have HF := Lib.hid (show decL (L s) = false by
        rw [HD.out]
        by_cases h1 : 0 ≤ v
        · have : ¬ v ≤ 1000000 := fun h2 => h0 ⟨h1, h2⟩
          simp [this]
        · simp [h1])
      by_cases h1 : 0 ≤ v
      · have q0 : decide (0 ≤ v) = true := by simpa using h1
        have q1 : decide (v ≤ 1000000) = false := by simp; omega
        clear h0 h1
        go_enter Tryz.func78, Tryz.ntmps78
        go_wp2_with fail
        refine HA.out.mono ?_
        rintro e w1 ⟨rfl, hw1⟩
        have hb1 : Below w.heap.size w w1 := by
          rcases hw1 with rfl | ⟨t, rfl⟩
          · exact Below.refl _ _
          · exact Lib.bytesWorld_below w _ t
        clear hw1
        go_wp2_with fail
        go_ret
        exact ⟨ret_bool HF.out.symm, hb1⟩
      · have q0 : decide (0 ≤ v) = false := by simpa using h1
        clear h0 h1
        go_enter Tryz.func78, Tryz.ntmps78
        go_wp2_with fail
        refine HA.out.mono ?_
        rintro e w1 ⟨rfl, hw1⟩
        have hb1 : Below w.heap.size w w1 := by
          rcases hw1 with rfl | ⟨t, rfl⟩
          · exact Below.refl _ _
          · exact Lib.bytesWorld_below w _ t
        clear hw1
        go_wp2_with fail
        go_ret
        exact ⟨ret_bool HF.out.symm, hb1⟩
  · obtain ⟨tp, p, hv⟩ := hw.syn
    have HF := Lib.hid (dec_no (L s) (fun v hv => by rw [show Lib.atoiAll (L s) = _ from h] at hv; cases hv))
    have HA := Lib.hid (show Calls Tryz.prog 83 #[.string s] w fun e w' => ∃ N, e = .returned (.tuple #[.int .i64 0, .iface 162 (.pointer (some ⟨N, 0, none⟩))]) ∧ Below w.heap.size w w' from (Any.strconv_Atoi_syntax_var Tryz.laysC172 s (by omega) h tp p w hv).mono fun _ _ ⟨N, h1, _, _, h4⟩ => ⟨N, h1, h4⟩)
    clear h hv hw
    go_enter Tryz.func78, Tryz.ntmps78
    go_wp2_with fail
    refine HA.out.mono ?_
    rintro e w1 ⟨N, rfl, hb1⟩
    go_wp2_with fail
    go_ret
    exact ⟨ret_bool HF.out.symm, hb1⟩
  · obtain ⟨tp, p, hv⟩ := hw.rng
    have HF := Lib.hid (dec_no (L s) (fun v hv => by rw [show Lib.atoiAll (L s) = _ from h] at hv; cases hv))
    have HA := Lib.hid (show Calls Tryz.prog 83 #[.string s] w fun e w' => ∃ N, e = .returned (.tuple #[.int .i64 (Lib.atoiSat s.data.toList), .iface 162 (.pointer (some ⟨N, 0, none⟩))]) ∧ Below w.heap.size w w' from (Any.strconv_Atoi_range_var Tryz.laysC172 s (by omega) h tp p w hv).mono fun _ _ ⟨N, h1, _, _, h4⟩ => ⟨N, h1, h4⟩)
    clear h hv hw
    go_enter Tryz.func78, Tryz.ntmps78
    go_wp2_with fail
    refine HA.out.mono ?_
    rintro e w1 ⟨N, rfl, hb1⟩
    go_wp2_with fail
    go_ret
    exact ⟨ret_bool HF.out.symm, hb1⟩

theorem index_mark (c : UInt8) : decide ((0 : Int) ≤ Lib.indexByte marksS.data.toList c) = isMark c := by
  unfold isMark
  have h : ∀ l : List UInt8, (-1 ≤ Lib.indexByte l c) ∧ (decide ((0 : Int) ≤ Lib.indexByte l c) = l.contains c) := by
    intro l
    induction l with
    | nil => exact ⟨by simp [Lib.indexByte], rfl⟩
    | cons b l ih =>
      obtain ⟨i1, i2⟩ := ih
      unfold Lib.indexByte
      by_cases hb : b = c
      · subst hb; simp
      · have h1 : (b == c) = false := by simpa using hb
        have h2 : (c == b) = false := by rw [beq_eq_false_iff_ne]; exact fun e => hb e.symm
        rw [h1, List.contains_cons, h2, Bool.false_or, ← i2]
        by_cases hm : Lib.indexByte l c = -1
        · simp [hm]
        · have h3 : (Lib.indexByte l c == -1) = false := by rw [beq_eq_false_iff_ne]; exact hm
          rw [h3]
          simp only [Bool.false_eq_true, if_false]
          refine ⟨by omega, ?_⟩
          rw [decide_eq_decide]
          omega
  exact (h _).2
theorem one_byte {s : ByteArray} (h : s.size = 1) : s = ⟨#[s[0]'(by omega)]⟩ := by
  have h1 := L_cons (s := s) (by omega)
  have h2 : (L s).drop 1 = [] := List.eq_nil_of_length_eq_zero (by rw [List.length_drop, L_length]; omega)
  apply ByteArray.ext; apply Array.toList_inj.1
  show L s = [_]
  rw [h1, h2]

set_option maxRecDepth 100000 in
set_option maxHeartbeats 1000000 in
theorem tokOk_any (k : Int) (s : ByteArray) (w : World) (hs : s.size ≤ 2 ^ 40) (hw : LaidW w) :
    Calls Tryz.prog 67 #[.int .i64 k, .string s] w fun e w' => e = .returned (.bool (okL k (L s))) ∧ Below w.heap.size w w' := by
  by_cases h1 : k = 1
  · subst h1
    have HW := Lib.hid (wordOk_any s w hs)
    clear hw
    go_enter Tryz.func67, Tryz.ntmps67
    go_wp2_with fail
    refine HW.out.mono ?_
    rintro e w' ⟨rfl, hb⟩
    go_wp2_with fail
    go_ret
    exact ⟨rfl, hb⟩
  · have q1 : (k == 1) = false := by rw [beq_eq_false_iff_ne]; exact h1
    by_cases h2 : k = 2
    · subst h2
      have HW := Lib.hid (decimalOk_any s w hs hw)
      clear h1 hw
      go_enter Tryz.func67, Tryz.ntmps67
      go_wp2_with fail
      refine HW.out.mono ?_
      rintro e w' ⟨rfl, hb⟩
      go_wp2_with fail
      go_ret
      exact ⟨rfl, hb⟩
    · have q2 : (k == 2) = false := by rw [beq_eq_false_iff_ne]; exact h2
      by_cases h3 : k = 3
      · subst h3
        clear h1 h2 q1 q2 hw
        by_cases hs1 : s.size = 1
        · have p1 : ((s.size : Int) == 1) = true := by rw [beq_iff_eq]; omega
          have hp0 : 0 < s.size := by omega
          have HM := Lib.hid (show markL (L s) = isMark (s[0]'hp0) from markL_one hs1)
          have HC := Lib.hid (Tryz.strings_Contains_one marksS (s[0]'hp0) w)
          rw [index_mark, ← HM.out, ← one_byte hs1] at HC
          generalize hm : markL (L s) = m at *
          have HMM := Lib.hid hm
          clear hs1 hm
          go_enter Tryz.func67, Tryz.ntmps67
          go_wp2_with fail
          refine HC.out.mono ?_
          rintro e w' ⟨rfl, rfl⟩
          go_wp2_with fail
          go_ret
          exact ⟨ret_bool (by rw [okL_three]; exact HMM.out.symm), Below.refl _ _⟩
        · have p1 : ((s.size : Int) == 1) = false := by rw [beq_eq_false_iff_ne]; omega
          have HM := Lib.hid (markL_no hs1)
          clear hs1
          go_enter Tryz.func67, Tryz.ntmps67
          go_wp2_with fail
          go_ret
          exact ⟨ret_bool (by rw [okL_three]; exact HM.out.symm), Below.refl _ _⟩
      · have q3 : (k == 3) = false := by rw [beq_eq_false_iff_ne]; exact h3
        have HE := Lib.hid (okL_else h1 h2 h3 (L s))
        clear h1 h2 h3 hw
        go_enter Tryz.func67, Tryz.ntmps67
        go_wp2_with fail
        go_ret
        exact ⟨ret_bool HE.out.symm, Below.refl _ _⟩

end Go.Proofs.YtabignplhkbcpaaGreatDoor
