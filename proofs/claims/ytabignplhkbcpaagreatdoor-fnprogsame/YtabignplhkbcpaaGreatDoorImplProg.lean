/-
  The contracts of the program's lineCountOk, deedsOf and ProgOk.
-/
import Derived.Test.YtabignplhkbcpaaGreatDoorGR
import Derived.Test.YtabignplhkbcpaaGreatDoorDeedOf
import Derived.Test.YtabignplhkbcpaaGreatDoorStList
import Derived.Deep.OwnRows
namespace Go.Proofs.YtabignplhkbcpaaGreatDoor
open Go.RowKit

theorem lineCountOk_any (n : Nat) (hn : n ≤ 2 ^ 40) (w : World) : Calls Tryz.prog 32 #[.int .i64 (n : Int)] w fun r w' => r = .returned (.bool (decide (1 ≤ n) && decide (n ≤ 16))) ∧ w' = w := by
  by_cases h1 : 1 ≤ n
  · have q1 : decide ((1 : Int) ≤ (n : Int)) = true := by simp; omega
    by_cases h2 : n ≤ 16
    · have q2 : decide ((n : Int) ≤ 16) = true := by simp; omega
      go_enter Tryz.func32, Tryz.ntmps32
      go_wp2_with fail
      go_ret
      exact ⟨ret_bool (by simp [h1, h2]), rfl⟩
    · have q2 : decide ((n : Int) ≤ 16) = false := by simp; omega
      go_enter Tryz.func32, Tryz.ntmps32
      go_wp2_with fail
      go_ret
      exact ⟨ret_bool (by simp [h1, h2]), rfl⟩
  · have q1 : decide ((1 : Int) ≤ (n : Int)) = false := by simp; omega
    go_enter Tryz.func32, Tryz.ntmps32
    go_wp2_with fail
    go_ret
    exact ⟨ret_bool (by simp [h1]), rfl⟩
theorem infoDe : (Tryz.prog.info? 48).map (fun i => (i.zero, i.size, i.bytes)) = some (some .nilIface, 1, 16) := by kernel_rfl
/-- The deeds of a program, in a row of their own; or none. -/
def DeedsR (o : Option (List De)) (w : World) (r : Ending) (w' : World) : Prop :=
  Below w.heap.size w w' ∧ ((∃ ds g, o = some ds ∧ r = .returned (.tuple #[.slice (some ⟨g, 0, none⟩) ds.length ds.length, .bool true]) ∧ g < w'.heap.size ∧ ∀ j (hj : j < ds.length), w'.cell? ⟨g, j, none⟩ = some (deV ds[j])) ∨ (o = none ∧ r = .returned (.tuple #[.slice none 0 0, .bool false])))
set_option linter.unusedVariables false in
set_option linter.unusedSimpArgs false in
set_option maxRecDepth 100000 in
set_option maxHeartbeats 8000000 in
theorem deedsOf_any (xs : List St) (A : Option Addr) (c B : Nat) (a : Addr) (w : World) (hA : LinesU w B A xs) (hB : B ≤ w.heap.size) (hwt : stWts xs ≤ 2 ^ 29) (hL : LaidW w) (hN : LaidN w a) :
    Calls Tryz.prog 21 #[.slice A xs.length c] w (DeedsR (doP xs) w) := by
  have hl : xs.length ≤ 2 ^ 29 := Nat.le_trans (stWts_length xs) hwt
  have HC0 := Lib.hid (lineCountOk_any xs.length (by omega) w)
  by_cases hcount : 1 ≤ xs.length ∧ xs.length ≤ 16
  case neg =>
    have HN := Lib.hid (show doP xs = none by unfold doP; rw [if_neg hcount])
    rw [show (decide (1 ≤ xs.length) && decide (xs.length ≤ 16)) = false by
      rw [Bool.eq_false_iff]
      intro h2
      simp only [Bool.and_eq_true, decide_eq_true_eq] at h2
      exact hcount h2] at HC0
    clear hcount hA
    go_enter Tryz.func21, Tryz.ntmps21
    go_wp2_with fail
    refine HC0.out.mono ?_
    rintro r w1 ⟨rfl, rfl⟩
    go_wp2_with fail
    go_ret2
    exact ⟨Below.refl _ _, .inr ⟨HN.out, rfl⟩⟩
  rw [show (decide (1 ≤ xs.length) && decide (xs.length ≤ 16)) = true by simp [hcount]] at HC0
  have HP := Lib.hid (show doP xs = deedsL xs by unfold doP; rw [if_pos hcount])
  have hc16 : xs.length ≤ 16 := hcount.2
  clear hcount
  have HA := Lib.hid hA
  have HW := Lib.hid (fun (s : St) (h : s ∈ xs) => Nat.le_trans (stWts_mem h) hwt)
  have HL := Lib.hid hL
  have HLN := Lib.hid hN
  clear hA hwt hL hN
  have hmk := fun W => run_make_row' (P := Tryz.prog) 40 48 .nilIface 16 Tryz.underlying40 infoDe rfl .i64 .i64 xs.length (by omega) (by omega) W
  go_enter Tryz.func21, Tryz.ntmps21
  go_wp2_with fail
  refine HC0.out.mono ?_
  rintro r w1 ⟨rfl, rfl⟩
  go_wp2_with fail
  go_loopw [5, 6, 7, 8, 18] (fun s5 s6 s7 s8 i wr => ∃ j : Nat, j ≤ xs.length ∧ i = .int .i64 j ∧ (∃ ds : List De, ds.length = j ∧ Hid (∀ k (hk : k < xs.length) (hd : k < ds.length), doS xs[k] = some ds[k]) ∧ Hid (wr.ownsRow w1.heap.size 48 1 (.slice (some ⟨w1.heap.size, 0, none⟩) xs.length xs.length) xs.length (ds.map deV ++ List.replicate (xs.length - j) .nilIface))) ∧ Below w1.heap.size w1 wr)
    (fun _ _ _ _ i _ => xs.length - (intOf i).toNat)
  case atStart => exact ⟨0, Nat.zero_le _, rfl, ⟨[], rfl, Lib.hid (fun k _ hd => absurd hd (Nat.not_lt_zero _)), Lib.hid (by simpa using own_made w1 .nilIface xs.length (by unfold maxLen; omega) 48)⟩, (Below.refl _ w1).alloc (Nat.le_refl _) _⟩
  case round =>
    obtain ⟨j, hj, rfl, ⟨ds, hdl, HD, HR⟩, hBw⟩ := hrel
    clear hmk
    by_cases hlt : j < xs.length
    · obtain ⟨g, off, D1, m1, D2, m2, eA, hg, hC, hk1, hk2⟩ := LinesK.at_ (HA.out.keep (hBw.mono hB)) hlt
      subst eA
      obtain ⟨⟨c0, c1, c2, c3, c4, c5, c6, c7, c8, c9, c10⟩, hm1, hm2⟩ := hC
      obtain ⟨W5, hW5⟩ : ∃ W5, W5 = wr.alloc (.cells #[.int .i64 xs[j].kind, .string xs[j].name, .string xs[j].typ, .int .i64 xs[j].e.kind, .int .i64 xs[j].e.n, .string xs[j].e.s, .slice D1 xs[j].e.kids.length m1, .int .i64 xs[j].t.kind, .int .i64 xs[j].t.n, .string xs[j].t.s, .slice D2 xs[j].t.kids.length m2] 36) := ⟨_, rfl⟩
      have hb5 : Below wr.heap.size wr W5 := by rw [hW5]; exact (Below.refl _ wr).alloc (Nat.le_refl _) _
      have hs5 : wr.heap.size < W5.heap.size := by rw [hW5]; simp
      have HDO := Lib.hid (deedOf_any xs[j] D1 D2 m1 m2 B a W5 (hk1.keep (hb5.mono (Nat.le_trans hB hBw.size))) (hk2.keep (hb5.mono (Nat.le_trans hB hBw.size))) hm1 hm2 (Nat.le_trans (Nat.le_trans hB hBw.size) hb5.size) (by have := HW.out _ (List.getElem_mem hlt); omega) (HL.out.below (hBw.trans (hb5.mono hBw.size))) (HLN.out.below (hBw.trans (hb5.mono hBw.size))))
      have hx : (j : Int) < (xs.length : Int) := by omega
      have HNO := Lib.hid (deedsL_none hlt)
      have HXJ := Lib.hid (show doS xs[j] = doS xs[j] from rfl)
      obtain ⟨x, hxj⟩ : ∃ x, x = xs[j] := ⟨_, rfl⟩
      have HXX := Lib.hid hxj
      rw [← hxj] at hW5 HDO HNO c0 c1 c2 c3 c4 c5 c6 c7 c8 c9 c10
      clear hxj hk1 hk2 hm1 hm2 HXJ
      have HB5 := Lib.hid hb5
      have z0 : W5.cell? ⟨wr.heap.size, 0, none⟩ = some (.int .i64 x.kind) := by rw [hW5]; exact cell_made4 wr _ _ 0 _ rfl
      have z1 : W5.cell? ⟨wr.heap.size, 1, none⟩ = some (.string x.name) := by rw [hW5]; exact cell_made4 wr _ _ 1 _ rfl
      have z2 : W5.cell? ⟨wr.heap.size, 2, none⟩ = some (.string x.typ) := by rw [hW5]; exact cell_made4 wr _ _ 2 _ rfl
      have z3 : W5.cell? ⟨wr.heap.size, 3, none⟩ = some (.int .i64 x.e.kind) := by rw [hW5]; exact cell_made4 wr _ _ 3 _ rfl
      have z4 : W5.cell? ⟨wr.heap.size, 4, none⟩ = some (.int .i64 x.e.n) := by rw [hW5]; exact cell_made4 wr _ _ 4 _ rfl
      have z5 : W5.cell? ⟨wr.heap.size, 5, none⟩ = some (.string x.e.s) := by rw [hW5]; exact cell_made4 wr _ _ 5 _ rfl
      have z6 : W5.cell? ⟨wr.heap.size, 6, none⟩ = some (.slice D1 x.e.kids.length m1) := by rw [hW5]; exact cell_made4 wr _ _ 6 _ rfl
      have z7 : W5.cell? ⟨wr.heap.size, 7, none⟩ = some (.int .i64 x.t.kind) := by rw [hW5]; exact cell_made4 wr _ _ 7 _ rfl
      have z8 : W5.cell? ⟨wr.heap.size, 8, none⟩ = some (.int .i64 x.t.n) := by rw [hW5]; exact cell_made4 wr _ _ 8 _ rfl
      have z9 : W5.cell? ⟨wr.heap.size, 9, none⟩ = some (.string x.t.s) := by rw [hW5]; exact cell_made4 wr _ _ 9 _ rfl
      have z10 : W5.cell? ⟨wr.heap.size, 10, none⟩ = some (.slice D2 x.t.kids.length m2) := by rw [hW5]; exact cell_made4 wr _ _ 10 _ rfl
      rw [hW5] at z0 z1 z2 z3 z4 z5 z6 z7 z8 z9 z10
      clear hb5
      go_wp2_with fail
      rw [← hW5]
      clear hW5 z0 c0 z1 c1 z2 c2 z3 c3 z4 c4 z5 c5 z6 c6 z7 c7 z8 c8 z9 c9 z10 c10
      refine HDO.out.mono ?_
      rintro r w2 ⟨hb2, (⟨d, hd, rfl⟩ | ⟨hd, rfl⟩)⟩
      · have hbw := hBw.trans ((HB5.out.trans (hb2.mono HB5.out.size)).mono hBw.size)
        have g0 := (HLN.out.below hbw).cell
        have HDS := Lib.hid hd
        have HI := Lib.hid (is_nil a w2)
        have HRK := Lib.hid (own_below HR.out (HB5.out.trans (hb2.mono HB5.out.size)))
        have hdk : w2.cell? ⟨w1.heap.size, j, none⟩ = some .nilIface := by
          rw [HRK.out.cellAt j (by omega), List.getElem?_append_right (by simp; omega), List.getElem?_replicate]
          simp
          omega
        have hdf := HRK.out.frozenAt j
        have HV := Lib.hid (show deV d = .iface (deT d) (deU d) from rfl)
        unfold deV
        generalize deT d = t1 at *
        generalize deU d = u1 at *
        clear hd HDO HR hb2
        go_wp2_with fail
        refine HI.out.mono ?_
        rintro r w3 ⟨rfl, rfl⟩
        go_wp2_with fail
        go_roundw
        case rel =>
          refine ⟨j + 1, by omega, by go_num, ⟨ds ++ [d], by simp [hdl], Lib.hid (fun k hk hd => ?_), Lib.hid ?_⟩, hbw.setCell (p := ⟨w1.heap.size, j, none⟩) (Nat.le_refl _) _⟩
          · by_cases hkj : k < ds.length
            · rw [List.getElem_append_left hkj]; exact HD.out k hk hkj
            · obtain rfl : k = ds.length := by simp at hd; omega
              simp only [List.getElem_append_right (Nat.le_refl _), Nat.sub_self, List.getElem_cons_zero]
              rw [← HDS.out, HXX.out]
              subst hdl
              rfl
          · have h2 := (HRK.out.stored j (.iface t1 u1)).1
            rw [show (ds.map deV ++ List.replicate (xs.length - j) Value.nilIface).set j (.iface t1 u1) = (ds ++ [d]).map deV ++ List.replicate (xs.length - (j + 1)) Value.nilIface from ?_] at h2
            · exact h2
            · obtain ⟨m, hm⟩ : ∃ m, xs.length - j = m + 1 := ⟨xs.length - j - 1, by omega⟩
              have hl2 : (ds.map deV).length = j := by simp [hdl]
              rw [List.set_append_right _ _ (by omega), hl2, Nat.sub_self, hm, List.replicate_succ, List.set_cons_zero, List.map_append, List.append_assoc, show xs.length - (j + 1) = m from by omega, ← HV.out]
              rfl
        case measure => simp [intOf]; omega
      · have hbw := hBw.trans ((HB5.out.trans (hb2.mono HB5.out.size)).mono hBw.size)
        have g0 := (HLN.out.below hbw).cell
        have HDS := Lib.hid (HNO.out hd)
        have HI := Lib.hid (is_same a w2)
        unfold errV
        clear hd HDO HR hb2
        go_wp2_with fail
        refine HI.out.mono ?_
        rintro r w3 ⟨rfl, rfl⟩
        go_wp2_with fail
        go_ret2
        exact ⟨hbw, .inr ⟨HP.out.trans HDS.out, rfl⟩⟩
    · obtain rfl : j = xs.length := by omega
      have HDS := Lib.hid (show doP xs = some ds from HP.out.trans ((deedsL_some xs ds).2 ⟨hdl, HD.out⟩))
      have HLT := Lib.hid (HR.out.lt w1.heap.size rfl)
      have HCE := Lib.hid (show ∀ j (hj : j < ds.length), wr.cell? ⟨w1.heap.size, j, none⟩ = some (deV ds[j]) from fun j hj => by
        rw [HR.out.cellAt j (by omega), List.getElem?_append_left (by simpa using hj), List.getElem?_map, List.getElem?_eq_getElem hj]
        rfl)
      have HDL := Lib.hid hdl
      clear HR HD hdl
      go_wp2_with fail
      go_ret2
      exact ⟨hBw, .inl ⟨ds, w1.heap.size, HDS.out, by rw [HDL.out]; rfl, HLT.out.2, HCE.out⟩⟩
set_option linter.unusedVariables false in
set_option maxRecDepth 100000 in
set_option maxHeartbeats 4000000 in
theorem progOk_any (xs : List St) (A : Option Addr) (c B : Nat) (a : Addr) (w : World) (hA : LinesU w B A xs) (hB : B ≤ w.heap.size) (hwt : stWts xs ≤ 2 ^ 29) (hL : LaidW w) (hN : LaidN w a) :
    Calls Tryz.prog 18 #[.slice A xs.length c] w fun r w' => r = .returned (.bool (doP xs).isSome) ∧ Below w.heap.size w w' := by
  have HD := Lib.hid (deedsOf_any xs A c B a w hA hB hwt hL hN)
  clear hA hL hN
  go_enter Tryz.func18, Tryz.ntmps18
  go_wp2_with fail
  refine HD.out.mono ?_
  rintro r w1 ⟨hb1, (⟨ds, g, hd, rfl, _, _⟩ | ⟨hd, rfl⟩)⟩
  · have HDS := Lib.hid hd
    clear hd HD
    go_wp2_with fail
    go_ret
    exact ⟨ret_bool (by rw [HDS.out]; rfl), hb1⟩
  · have HDS := Lib.hid hd
    clear hd HD
    go_wp2_with fail
    go_ret
    exact ⟨ret_bool (by rw [HDS.out]; rfl), hb1⟩
end Go.Proofs.YtabignplhkbcpaaGreatDoor
