/-
  The contract of the program's deedOf.
-/
import Derived.Test.YtabignplhkbcpaaGreatDoorGZ
import Derived.Test.YtabignplhkbcpaaGreatDoorIsErr
import Derived.Test.YtabignplhkbcpaaGreatDoorStmtSame
import Derived.Test.YtabignplhkbcpaaGreatDoorExprOk
namespace Go.Proofs.YtabignplhkbcpaaGreatDoor
open Go.RowKit

def errV (a : Addr) : Value := .iface 187 (.pointer (some a))
/-- The deed of a line that is ok, or the error. -/
def DeedR (x : Option De) (a : Addr) (w : World) (r : Ending) (w' : World) : Prop :=
  Below w.heap.size w w' ∧ ((∃ d, x = some d ∧ r = .returned (.tuple #[deV d, .nilIface])) ∨ (x = none ∧ r = .returned (.tuple #[.nilIface, errV a])))
theorem pt_small (p : Pt) : p.fine = true → p.ex.wt ≤ 9 * p.nodes := by
  induction p with
  | num n => intro _; simp only [Pt.ex, Ex.wt, Ex.wts, Pt.nodes]; have : ByteArray.empty.size = 0 := rfl; omega
  | name s => intro h; have := name_size8 h; simp only [Pt.ex, Ex.wt, Ex.wts, Pt.nodes]; omega
  | two s a b ia ib =>
    intro h
    simp only [Pt.fine, Bool.and_eq_true, decide_eq_true_eq] at h
    have h1 := ia h.2.1
    have h2 := ib h.2.2
    have h3 := hold_size1 h.1
    simp only [Pt.ex, Ex.wt, Ex.wts, Pt.nodes]; omega
  | «as» s a ia =>
    intro h
    simp only [Pt.fine, Bool.and_eq_true] at h
    have h1 := ia h.2
    have h3 := type_size4 h.1
    simp only [Pt.ex, Ex.wt, Ex.wts, Pt.nodes]; omega
theorem ok_wt {p : Pt} (h : p.ok = true) : p.ex.wt ≤ 108 := by
  have h1 := pt_small p (ok_fine h)
  simp only [Pt.ok, Bool.and_eq_true, decide_eq_true_eq] at h
  have := h.2.2
  omega
theorem st_small {d : De} (h : d.fine = true) : d.st.wt ≤ 2 ^ 29 := by
  cases d with
  | noD => decide
  | letD n t p =>
    simp only [De.fine, Bool.and_eq_true] at h
    have h1 := name_size8 h.1
    have h2 := type_size4 h.2.1
    have h3 := ok_wt h.2.2
    have h4 : Ex.zero.wt = 0 := rfl
    simp only [De.st, St.wt]; omega
  | sayD p =>
    have h3 := ok_wt (p := p) h
    have h4 : Ex.zero.wt = 0 := rfl
    have h5 : ByteArray.empty.size = 0 := rfl
    simp only [De.st, St.wt]; omega
  | whenD p q =>
    simp only [De.fine, Bool.and_eq_true] at h
    have h3 := ok_wt h.1
    have h4 := ok_wt h.2
    have h5 : ByteArray.empty.size = 0 := rfl
    simp only [De.st, St.wt]; omega
theorem text_small {d : De} (h : d.fine = true) : d.text.size ≤ 2 ^ 40 := by
  have h1 := joinK_size d.words d.words.length (Nat.le_refl _)
  rw [List.take_length] at h1
  have h2 := tot_small _ (De.words_small h)
  have h3 := De.words_length h
  show (joinK d.words d.words.length).size ≤ _
  omega
theorem ok_none {e : Ex} (h : okE e = false) : okP e = none := by
  cases hp : okP e with
  | none => rfl
  | some p => rw [← okP_isSome, hp] at h; cases h
theorem ok_some {e : Ex} (h : okE e = true) : ∃ p, okP e = some p := by
  cases hp : okP e with
  | none => rw [← okP_isSome, hp] at h; cases h
  | some p => exact ⟨p, rfl⟩
set_option linter.unusedVariables false in
set_option linter.unusedSimpArgs false in
set_option maxRecDepth 100000 in
set_option maxHeartbeats 8000000 in
theorem deedOf_any (s : St) (A1 A2 : Option Addr) (c1 c2 B : Nat) (a : Addr) (w : World) (hA1 : KidsU w B A1 s.e.kids) (hA2 : KidsU w B A2 s.t.kids) (hc1 : s.e.kids.length ≤ c1) (hc2 : s.t.kids.length ≤ c2) (hB : B ≤ w.heap.size) (hwt : s.wt ≤ 2 ^ 29) (hL : LaidW w) (hN : LaidN w a) :
    Calls Tryz.prog 33 #[.agg #[.int .i64 s.kind, .string s.name, .string s.typ, .int .i64 s.e.kind, .int .i64 s.e.n, .string s.e.s, .slice A1 s.e.kids.length c1, .int .i64 s.t.kind, .int .i64 s.t.n, .string s.t.s, .slice A2 s.t.kids.length c2]] w (DeedR (doS s) a w) := by
  have hkl1 : s.e.kids.length ≤ 2 ^ 40 := by
    have h1 : s.e.wt ≤ s.wt := by unfold St.wt; omega
    generalize s.e = x at *
    obtain ⟨k, n, t, ks⟩ := x
    have := Ex.wts_length ks
    simp only [Ex.wt, Ex.kids] at h1 ⊢
    omega
  obtain ⟨W0, hW0⟩ : ∃ W0, W0 = w.alloc (.cells #[.int .i64 s.kind, .string s.name, .string s.typ, .int .i64 s.e.kind, .int .i64 s.e.n, .string s.e.s, .slice A1 s.e.kids.length c1, .int .i64 s.t.kind, .int .i64 s.t.n, .string s.t.s, .slice A2 s.t.kids.length c2] 36) := ⟨_, rfl⟩
  have hb0 : Below w.heap.size w W0 := by rw [hW0]; exact (Below.refl _ w).alloc (Nat.le_refl _) _
  have hl0 : w.heap.size < W0.heap.size := by rw [hW0]; simp
  have a0 : W0.cell? ⟨w.heap.size, 0, none⟩ = some (.int .i64 s.kind) := by rw [hW0]; exact cell_made4 w _ _ 0 _ rfl
  have a1 : W0.cell? ⟨w.heap.size, 1, none⟩ = some (.string s.name) := by rw [hW0]; exact cell_made4 w _ _ 1 _ rfl
  have a2 : W0.cell? ⟨w.heap.size, 2, none⟩ = some (.string s.typ) := by rw [hW0]; exact cell_made4 w _ _ 2 _ rfl
  have a3 : W0.cell? ⟨w.heap.size, 3, none⟩ = some (.int .i64 s.e.kind) := by rw [hW0]; exact cell_made4 w _ _ 3 _ rfl
  have a4 : W0.cell? ⟨w.heap.size, 4, none⟩ = some (.int .i64 s.e.n) := by rw [hW0]; exact cell_made4 w _ _ 4 _ rfl
  have a5 : W0.cell? ⟨w.heap.size, 5, none⟩ = some (.string s.e.s) := by rw [hW0]; exact cell_made4 w _ _ 5 _ rfl
  have a6 : W0.cell? ⟨w.heap.size, 6, none⟩ = some (.slice A1 s.e.kids.length c1) := by rw [hW0]; exact cell_made4 w _ _ 6 _ rfl
  have a7 : W0.cell? ⟨w.heap.size, 7, none⟩ = some (.int .i64 s.t.kind) := by rw [hW0]; exact cell_made4 w _ _ 7 _ rfl
  have a8 : W0.cell? ⟨w.heap.size, 8, none⟩ = some (.int .i64 s.t.n) := by rw [hW0]; exact cell_made4 w _ _ 8 _ rfl
  have a9 : W0.cell? ⟨w.heap.size, 9, none⟩ = some (.string s.t.s) := by rw [hW0]; exact cell_made4 w _ _ 9 _ rfl
  have a10 : W0.cell? ⟨w.heap.size, 10, none⟩ = some (.slice A2 s.t.kids.length c2) := by rw [hW0]; exact cell_made4 w _ _ 10 _ rfl
  have HP1 := Lib.hid (partOf_any s.e A1 c1 B W0 (hA1.kids.keep (hb0.mono hB)) hc1 (Nat.le_trans hB hb0.size) (by unfold St.wt at hwt; omega))
  have HP2 := Lib.hid (fun (V : World) (hV : Below W0.heap.size W0 V) => partOf_any s.t A2 c2 B V (hA2.kids.keep ((hb0.trans (hV.mono hb0.size)).mono hB)) hc2 (Nat.le_trans hB (Nat.le_trans hb0.size hV.size)) (by unfold St.wt at hwt; omega))
  unfold PartOf at HP1 HP2
  have HA1 := Lib.hid hA1
  have HA2 := Lib.hid hA2
  have HL := Lib.hid hL
  have HLN := Lib.hid hN
  have hns : s.name.size ≤ 2 ^ 40 := by unfold St.wt at hwt; omega
  clear hA1 hA2 hL hN
  go_enter Tryz.func33, Tryz.ntmps33
  go_wp2_with fail
  rw [← hW0]
  clear hW0
  refine HP1.out.mono ?_
  rintro r w1 ⟨v1, rfl, hv1, hb1⟩
  have b0 := (hb1.cell (p := ⟨w.heap.size, 0, none⟩) hl0).trans a0
  have b1 := (hb1.cell (p := ⟨w.heap.size, 1, none⟩) hl0).trans a1
  have b2 := (hb1.cell (p := ⟨w.heap.size, 2, none⟩) hl0).trans a2
  have b3 := (hb1.cell (p := ⟨w.heap.size, 3, none⟩) hl0).trans a3
  have b4 := (hb1.cell (p := ⟨w.heap.size, 4, none⟩) hl0).trans a4
  have b5 := (hb1.cell (p := ⟨w.heap.size, 5, none⟩) hl0).trans a5
  have b6 := (hb1.cell (p := ⟨w.heap.size, 6, none⟩) hl0).trans a6
  have b7 := (hb1.cell (p := ⟨w.heap.size, 7, none⟩) hl0).trans a7
  have b8 := (hb1.cell (p := ⟨w.heap.size, 8, none⟩) hl0).trans a8
  have b9 := (hb1.cell (p := ⟨w.heap.size, 9, none⟩) hl0).trans a9
  have b10 := (hb1.cell (p := ⟨w.heap.size, 10, none⟩) hl0).trans a10
  go_wp2_with fail
  refine (HP2.out w1 hb1).mono ?_
  rintro r X ⟨v2, rfl, hv2, hb2⟩
  have hb01 := hb1.trans (hb2.mono hb1.size)
  have hbX : Below w.heap.size w X := hb0.trans (hb01.mono hb0.size)
  have hlX : w.heap.size < X.heap.size := Nat.lt_of_lt_of_le hl0 hb01.size
  have e0 := (hb01.cell (p := ⟨w.heap.size, 0, none⟩) hl0).trans a0
  have e1 := (hb01.cell (p := ⟨w.heap.size, 1, none⟩) hl0).trans a1
  have e2 := (hb01.cell (p := ⟨w.heap.size, 2, none⟩) hl0).trans a2
  have e3 := (hb01.cell (p := ⟨w.heap.size, 3, none⟩) hl0).trans a3
  have e4 := (hb01.cell (p := ⟨w.heap.size, 4, none⟩) hl0).trans a4
  have e5 := (hb01.cell (p := ⟨w.heap.size, 5, none⟩) hl0).trans a5
  have e6 := (hb01.cell (p := ⟨w.heap.size, 6, none⟩) hl0).trans a6
  have e7 := (hb01.cell (p := ⟨w.heap.size, 7, none⟩) hl0).trans a7
  have e8 := (hb01.cell (p := ⟨w.heap.size, 8, none⟩) hl0).trans a8
  have e9 := (hb01.cell (p := ⟨w.heap.size, 9, none⟩) hl0).trans a9
  have e10 := (hb01.cell (p := ⟨w.heap.size, 10, none⟩) hl0).trans a10
  have HV1 := Lib.hid hv1
  have HV2 := Lib.hid hv2
  clear hv1 hv2 HP1 HP2 a0 b0 a1 b1 a2 b2 a3 b3 a4 b4 a5 b5 a6 b6 a7 b7 a8 b8 a9 b9 a10 b10
  by_cases hk0 : s.kind = 0
  · have q0 : (s.kind == 0) = true := by rw [beq_iff_eq]; exact hk0
    obtain ⟨d, hd⟩ : ∃ d, d = De.noD := ⟨_, rfl⟩
    have hdf : d.fine = true := by rw [hd]; rfl
    have HDS := Lib.hid (show deS s = some d by unfold deS; rw [if_pos hk0, hd])
    have HVD := Lib.hid (show Value.iface 93 (.agg #[]) = .iface (deT d) (deU d) by rw [hd]; rfl)
    clear hd hk0
    go_wp2_with fail
    rw [HVD.out]
    have HST := Lib.hid (fun V => stmt_any d V)
    have HDT := Lib.hid (fun (V : World) (hV : Below X.heap.size X V) => deedText_any d hdf V (HL.out.below (hbX.trans (hV.mono hbX.size))))
    have HSS := Lib.hid (fun (V : World) (X1 X2 : Option Addr) (k1 k2 : Nat) (hV : Below X.heap.size X V) (h1 : KidsU V V.heap.size X1 d.st.e.kids) (h2 : KidsU V V.heap.size X2 d.st.t.kids) (h3 : d.st.e.kids.length ≤ k1) (h4 : d.st.t.kids.length ≤ k2) =>
      stmtSame_any d.st s X1 X2 A1 A2 k1 k2 c1 c2 V.heap.size V h1 h2 ((HA1.out.keep ((hbX.trans (hV.mono hbX.size)).mono hB)).wide (Nat.le_trans hB (Nat.le_trans hbX.size hV.size))) ((HA2.out.keep ((hbX.trans (hV.mono hbX.size)).mono hB)).wide (Nat.le_trans hB (Nat.le_trans hbX.size hV.size))) h3 h4 hc1 hc2 (Nat.le_refl _) (st_small hdf))
    have HOU := Lib.hid (fun (V : World) (lo hi : Nat) (x : Ex) (A : Option Addr) (h : OwnE V x lo hi A) (hh : hi ≤ V.heap.size) => own_kidsU x lo hi A V.heap.size h hh)
    obtain ⟨m1, n1, j1⟩ := meth_stmt d
    have HDO := Lib.hid (show doS s = if sameS d.st s = true ∧ d.text.size ≤ 116 then some d else none by unfold doS; rw [HDS.out]; rfl)
    have htx : d.text.size ≤ 2 ^ 40 := text_small hdf
    unfold deV at HDT
    unfold GivesSt stV at HST
    have HV := Lib.hid (show deV d = .iface (deT d) (deU d) from rfl)
    generalize d.text = tx at *
    generalize d.st = ds at *
    generalize deT d = t1 at *
    generalize deU d = u1 at *
    generalize fStmt d = f1 at *
    clear hdf
    cases hsm : sameS ds s with
    | false =>
      rw [hsm] at HDO
      have HN := Lib.hid (show doS s = none by rw [HDO.out]; simp)
      have HSM := Lib.hid hsm
      simp only [hsm] at HSS
      clear hsm
      go_wp2_with fail
      refine wp_region_noPanic ?_
      refine wp_region_held_drew (S := (fun w' => w'.cell? ⟨w.heap.size, 0, none⟩ = some (.int .i64 s.kind) ∧ w'.cell? ⟨w.heap.size, 1, none⟩ = some (.string s.name) ∧ w'.cell? ⟨w.heap.size, 2, none⟩ = some (.string s.typ) ∧ w'.cell? ⟨w.heap.size, 3, none⟩ = some (.int .i64 s.e.kind) ∧ w'.cell? ⟨w.heap.size, 4, none⟩ = some (.int .i64 s.e.n) ∧ w'.cell? ⟨w.heap.size, 5, none⟩ = some (.string s.e.s) ∧ w'.cell? ⟨w.heap.size, 6, none⟩ = some (.slice A1 s.e.kids.length c1) ∧ w'.cell? ⟨w.heap.size, 7, none⟩ = some (.int .i64 s.t.kind) ∧ w'.cell? ⟨w.heap.size, 8, none⟩ = some (.int .i64 s.t.n) ∧ w'.cell? ⟨w.heap.size, 9, none⟩ = some (.string s.t.s) ∧ w'.cell? ⟨w.heap.size, 10, none⟩ = some (.slice A2 s.t.kids.length c2))) (by kernel_rfl) (by exact ⟨e0, e1, e2, e3, e4, e5, e6, e7, e8, e9, e10⟩) (fun hHeld => ?_)
      refine wpAnyH_take (i := 0) (v := ?valF0T1) rfl (by kernel_rfl) (by kernel_rfl) (by kernel_rfl) (fun _ _ _ h => h) (Or.inl ⟨by rfl, ?yieF0T1⟩) (by assumption) ?resF0T1
      case yieF0T1 =>
        intro w hSw
        try dsimp only at hSw
        try obtain ⟨s0, s1, s2, s3, s4, s5, s6, s7, s8, s9, s10⟩ := hSw
        go_simp
        try with_reducible rfl
      try simp only [Act.put, List.setIfInBounds_toArray, List.set_cons_zero, List.set_cons_succ, List.getElem_toArray, List.getElem_cons_zero, List.getElem_cons_succ]
      refine wpAnyH_take (i := 2) (v := ?valF2T1) rfl (by kernel_rfl) (by kernel_rfl) (by kernel_rfl) (fun _ _ _ h => h) (Or.inl ⟨by rfl, ?yieF2T1⟩) (by assumption) ?resF2T1
      case yieF2T1 =>
        intro w hSw
        try dsimp only at hSw
        try obtain ⟨s0, s1, s2, s3, s4, s5, s6, s7, s8, s9, s10⟩ := hSw
        go_simp
        try with_reducible rfl
      try simp only [Act.put, List.setIfInBounds_toArray, List.set_cons_zero, List.set_cons_succ, List.getElem_toArray, List.getElem_cons_zero, List.getElem_cons_succ]
      refine wpAnyH_ready (rs := [1]) (by kernel_rfl) (by simp) ?_
      refine AllReadyH.cons rfl (fun K hK => ?_) AllReadyH.nil
      go_simp
      refine (HST.out _).mono ?_
      rintro r w1 ⟨X1, k1, X2, k2, mid, rfl, hk1, hk2, hO1, hO2, hmid, hb1'⟩; have hb1 : Below X.heap.size X w1 := (Below.refl _ X).drew.trans hb1'; have z0 := (hb1.cell (p := ⟨w.heap.size, 0, none⟩) hlX).trans e0; have z1 := (hb1.cell (p := ⟨w.heap.size, 1, none⟩) hlX).trans e1; have z2 := (hb1.cell (p := ⟨w.heap.size, 2, none⟩) hlX).trans e2; have z3 := (hb1.cell (p := ⟨w.heap.size, 3, none⟩) hlX).trans e3; have z4 := (hb1.cell (p := ⟨w.heap.size, 4, none⟩) hlX).trans e4; have z5 := (hb1.cell (p := ⟨w.heap.size, 5, none⟩) hlX).trans e5; have z6 := (hb1.cell (p := ⟨w.heap.size, 6, none⟩) hlX).trans e6; have z7 := (hb1.cell (p := ⟨w.heap.size, 7, none⟩) hlX).trans e7; have z8 := (hb1.cell (p := ⟨w.heap.size, 8, none⟩) hlX).trans e8; have z9 := (hb1.cell (p := ⟨w.heap.size, 9, none⟩) hlX).trans e9; have z10 := (hb1.cell (p := ⟨w.heap.size, 10, none⟩) hlX).trans e10; have KA := HOU.out w1 _ _ _ X1 hO1 hmid; have KB := HOU.out w1 _ _ _ X2 hO2 (Nat.le_refl _)
      go_wp2_with fail
      refine hK.out _ _ (by exact ⟨z0, z1, z2, z3, z4, z5, z6, z7, z8, z9, z10⟩) (fun hHeld => ?_)
      clear hK K
      try simp only [Act.put, List.setIfInBounds_toArray, List.set_cons_zero, List.set_cons_succ, List.getElem_toArray, List.getElem_cons_zero, List.getElem_cons_succ]
      refine wpAnyH_ready (rs := [3]) (by kernel_rfl) (by simp) ?_
      refine AllReadyH.cons rfl (fun K hK => ?_) AllReadyH.nil
      go_simp
      refine (HSS.out _ X1 X2 k1 k2 hb1 KA KB hk1 hk2).mono ?_
      rintro r w2 ⟨rfl, hb2'⟩; have hb2 : Below X.heap.size X w2 := hb1.trans (hb2'.mono hb1.size); have y0 := (hb2.cell (p := ⟨w.heap.size, 0, none⟩) hlX).trans e0; have y1 := (hb2.cell (p := ⟨w.heap.size, 1, none⟩) hlX).trans e1; have y2 := (hb2.cell (p := ⟨w.heap.size, 2, none⟩) hlX).trans e2; have y3 := (hb2.cell (p := ⟨w.heap.size, 3, none⟩) hlX).trans e3; have y4 := (hb2.cell (p := ⟨w.heap.size, 4, none⟩) hlX).trans e4; have y5 := (hb2.cell (p := ⟨w.heap.size, 5, none⟩) hlX).trans e5; have y6 := (hb2.cell (p := ⟨w.heap.size, 6, none⟩) hlX).trans e6; have y7 := (hb2.cell (p := ⟨w.heap.size, 7, none⟩) hlX).trans e7; have y8 := (hb2.cell (p := ⟨w.heap.size, 8, none⟩) hlX).trans e8; have y9 := (hb2.cell (p := ⟨w.heap.size, 9, none⟩) hlX).trans e9; have y10 := (hb2.cell (p := ⟨w.heap.size, 10, none⟩) hlX).trans e10
      go_wp2_with fail
      refine hK.out _ _ (by exact ⟨y0, y1, y2, y3, y4, y5, y6, y7, y8, y9, y10⟩) (fun hHeld => ?_)
      clear hK K
      try simp only [Act.put, List.setIfInBounds_toArray, List.set_cons_zero, List.set_cons_succ, List.getElem_toArray, List.getElem_cons_zero, List.getElem_cons_succ]
      refine wpAnyH_take (i := 4) (v := ?valF4T1) rfl (by kernel_rfl) (by kernel_rfl) (by kernel_rfl) (fun _ _ _ h => h) (Or.inl ⟨by rfl, ?yieF4T1⟩) (by assumption) ?resF4T1
      case yieF4T1 =>
        intro w hSw
        try dsimp only at hSw
        try obtain ⟨s0, s1, s2, s3, s4, s5, s6, s7, s8, s9, s10⟩ := hSw
        go_simp
        try with_reducible rfl
      try simp only [Act.put, List.setIfInBounds_toArray, List.set_cons_zero, List.set_cons_succ, List.getElem_toArray, List.getElem_cons_zero, List.getElem_cons_succ]
      refine wpAnyH_take (i := 5) (v := ?valF5T1) rfl (by kernel_rfl) (by kernel_rfl) (by kernel_rfl) (fun _ _ _ h => h) (Or.inl ⟨by rfl, ?yieF5T1⟩) (by assumption) ?resF5T1
      case yieF5T1 =>
        intro w hSw
        try dsimp only at hSw
        try obtain ⟨s0, s1, s2, s3, s4, s5, s6, s7, s8, s9, s10⟩ := hSw
        go_simp
        try with_reducible rfl
      try simp only [Act.put, List.setIfInBounds_toArray, List.set_cons_zero, List.set_cons_succ, List.getElem_toArray, List.getElem_cons_zero, List.getElem_cons_succ]
      refine wpAnyH_take (i := 6) (v := undef) rfl (by kernel_rfl) (by kernel_rfl) (by kernel_rfl) (fun _ _ _ h => h) (Or.inr ⟨by rfl, rfl⟩) (by assumption) ?_
      try simp only [Act.put, List.setIfInBounds_toArray, List.set_cons_zero, List.set_cons_succ, List.getElem_toArray, List.getElem_cons_zero, List.getElem_cons_succ]
      refine wpAnyH_take (i := 7) (v := undef) rfl (by kernel_rfl) (by kernel_rfl) (by kernel_rfl) (fun _ _ _ h => h) (Or.inr ⟨by rfl, rfl⟩) (by assumption) ?_
      try simp only [Act.put, List.setIfInBounds_toArray, List.set_cons_zero, List.set_cons_succ, List.getElem_toArray, List.getElem_cons_zero, List.getElem_cons_succ]
      refine wpAnyH_take (i := 8) (v := undef) rfl (by kernel_rfl) (by kernel_rfl) (by kernel_rfl) (fun _ _ _ h => h) (Or.inr ⟨by rfl, rfl⟩) (by assumption) ?_
      try simp only [Act.put, List.setIfInBounds_toArray, List.set_cons_zero, List.set_cons_succ, List.getElem_toArray, List.getElem_cons_zero, List.getElem_cons_succ]
      refine wpAnyH_take (i := 9) (v := undef) rfl (by kernel_rfl) (by kernel_rfl) (by kernel_rfl) (fun _ _ _ h => h) (Or.inr ⟨by rfl, rfl⟩) (by assumption) ?_
      try simp only [Act.put, List.setIfInBounds_toArray, List.set_cons_zero, List.set_cons_succ, List.getElem_toArray, List.getElem_cons_zero, List.getElem_cons_succ]
      refine wpAnyH_take (i := 10) (v := ?valF10T1) rfl (by kernel_rfl) (by kernel_rfl) (by kernel_rfl) (fun _ _ _ h => h) (Or.inl ⟨by rfl, ?yieF10T1⟩) (by assumption) ?resF10T1
      case yieF10T1 =>
        intro w hSw
        try dsimp only at hSw
        try obtain ⟨s0, s1, s2, s3, s4, s5, s6, s7, s8, s9, s10⟩ := hSw
        go_simp
        try with_reducible rfl
      try simp only [Act.put, List.setIfInBounds_toArray, List.set_cons_zero, List.set_cons_succ, List.getElem_toArray, List.getElem_cons_zero, List.getElem_cons_succ]
      refine wpAnyH_done (by kernel_rfl) ?_ _
      refine NoPanic.normal ?_
      have g0 := (HLN.out.below (hbX.trans (hb2.mono hbX.size))).cell
      go_wp2_with fail
      go_quiet (fail)
      go_wp2_with fail
      go_ret2
      exact ⟨hbX.trans ((hb2.mono hbX.size).trans ((below_draws _).mono (Nat.le_trans hbX.size hb2.size))), .inr ⟨HN.out, rfl⟩⟩
    | true =>
      rw [hsm] at HDO
      have HSM := Lib.hid hsm
      simp only [hsm] at HSS
      clear hsm
      by_cases hsz : tx.size ≤ 116
      · have HN := Lib.hid (show doS s = some d by rw [HDO.out]; simp [hsz])
        have q116 : decide ((116 : Int) < (tx.size : Int)) = false := by simp; omega
        clear hsz
        go_wp2_with fail
        go_region_held3 (fun w' => w'.cell? ⟨w.heap.size, 0, none⟩ = some (.int .i64 s.kind) ∧ w'.cell? ⟨w.heap.size, 1, none⟩ = some (.string s.name) ∧ w'.cell? ⟨w.heap.size, 2, none⟩ = some (.string s.typ) ∧ w'.cell? ⟨w.heap.size, 3, none⟩ = some (.int .i64 s.e.kind) ∧ w'.cell? ⟨w.heap.size, 4, none⟩ = some (.int .i64 s.e.n) ∧ w'.cell? ⟨w.heap.size, 5, none⟩ = some (.string s.e.s) ∧ w'.cell? ⟨w.heap.size, 6, none⟩ = some (.slice A1 s.e.kids.length c1) ∧ w'.cell? ⟨w.heap.size, 7, none⟩ = some (.int .i64 s.t.kind) ∧ w'.cell? ⟨w.heap.size, 8, none⟩ = some (.int .i64 s.t.n) ∧ w'.cell? ⟨w.heap.size, 9, none⟩ = some (.string s.t.s) ∧ w'.cell? ⟨w.heap.size, 10, none⟩ = some (.slice A2 s.t.kids.length c2))
          (first | exact ⟨x0, x1, x2, x3, x4, x5, x6, x7, x8, x9, x10⟩ | exact ⟨y0, y1, y2, y3, y4, y5, y6, y7, y8, y9, y10⟩ | exact ⟨z0, z1, z2, z3, z4, z5, z6, z7, z8, z9, z10⟩ | exact ⟨(cell_drew0 _ _).trans e0, (cell_drew0 _ _).trans e1, (cell_drew0 _ _).trans e2, (cell_drew0 _ _).trans e3, (cell_drew0 _ _).trans e4, (cell_drew0 _ _).trans e5, (cell_drew0 _ _).trans e6, (cell_drew0 _ _).trans e7, (cell_drew0 _ _).trans e8, (cell_drew0 _ _).trans e9, (cell_drew0 _ _).trans e10⟩)
          (first | (refine (HST.out _).mono ?_; rintro r w1 ⟨X1, k1, X2, k2, mid, rfl, hk1, hk2, hO1, hO2, hmid, hb1'⟩; have hb1 : Below X.heap.size X w1 := (Below.refl _ X).drew.trans hb1'; have z0 := (hb1.cell (p := ⟨w.heap.size, 0, none⟩) hlX).trans e0; have z1 := (hb1.cell (p := ⟨w.heap.size, 1, none⟩) hlX).trans e1; have z2 := (hb1.cell (p := ⟨w.heap.size, 2, none⟩) hlX).trans e2; have z3 := (hb1.cell (p := ⟨w.heap.size, 3, none⟩) hlX).trans e3; have z4 := (hb1.cell (p := ⟨w.heap.size, 4, none⟩) hlX).trans e4; have z5 := (hb1.cell (p := ⟨w.heap.size, 5, none⟩) hlX).trans e5; have z6 := (hb1.cell (p := ⟨w.heap.size, 6, none⟩) hlX).trans e6; have z7 := (hb1.cell (p := ⟨w.heap.size, 7, none⟩) hlX).trans e7; have z8 := (hb1.cell (p := ⟨w.heap.size, 8, none⟩) hlX).trans e8; have z9 := (hb1.cell (p := ⟨w.heap.size, 9, none⟩) hlX).trans e9; have z10 := (hb1.cell (p := ⟨w.heap.size, 10, none⟩) hlX).trans e10; have KA := HOU.out w1 _ _ _ X1 hO1 hmid; have KB := HOU.out w1 _ _ _ X2 hO2 (Nat.le_refl _)) | (go_at_call 51; refine (HSS.out _ X1 X2 k1 k2 hb1 KA KB hk1 hk2).mono ?_; rintro r w2 ⟨rfl, hb2'⟩; have hb2 : Below X.heap.size X w2 := hb1.trans (hb2'.mono hb1.size); have y0 := (hb2.cell (p := ⟨w.heap.size, 0, none⟩) hlX).trans e0; have y1 := (hb2.cell (p := ⟨w.heap.size, 1, none⟩) hlX).trans e1; have y2 := (hb2.cell (p := ⟨w.heap.size, 2, none⟩) hlX).trans e2; have y3 := (hb2.cell (p := ⟨w.heap.size, 3, none⟩) hlX).trans e3; have y4 := (hb2.cell (p := ⟨w.heap.size, 4, none⟩) hlX).trans e4; have y5 := (hb2.cell (p := ⟨w.heap.size, 5, none⟩) hlX).trans e5; have y6 := (hb2.cell (p := ⟨w.heap.size, 6, none⟩) hlX).trans e6; have y7 := (hb2.cell (p := ⟨w.heap.size, 7, none⟩) hlX).trans e7; have y8 := (hb2.cell (p := ⟨w.heap.size, 8, none⟩) hlX).trans e8; have y9 := (hb2.cell (p := ⟨w.heap.size, 9, none⟩) hlX).trans e9; have y10 := (hb2.cell (p := ⟨w.heap.size, 10, none⟩) hlX).trans e10) | (go_at_call 52; refine (HDT.out _ hb2).mono ?_; rintro r w3 ⟨rfl, hb3'⟩; have hb3 : Below X.heap.size X w3 := hb2.trans (hb3'.mono hb2.size); have x0 := (hb3.cell (p := ⟨w.heap.size, 0, none⟩) hlX).trans e0; have x1 := (hb3.cell (p := ⟨w.heap.size, 1, none⟩) hlX).trans e1; have x2 := (hb3.cell (p := ⟨w.heap.size, 2, none⟩) hlX).trans e2; have x3 := (hb3.cell (p := ⟨w.heap.size, 3, none⟩) hlX).trans e3; have x4 := (hb3.cell (p := ⟨w.heap.size, 4, none⟩) hlX).trans e4; have x5 := (hb3.cell (p := ⟨w.heap.size, 5, none⟩) hlX).trans e5; have x6 := (hb3.cell (p := ⟨w.heap.size, 6, none⟩) hlX).trans e6; have x7 := (hb3.cell (p := ⟨w.heap.size, 7, none⟩) hlX).trans e7; have x8 := (hb3.cell (p := ⟨w.heap.size, 8, none⟩) hlX).trans e8; have x9 := (hb3.cell (p := ⟨w.heap.size, 9, none⟩) hlX).trans e9; have x10 := (hb3.cell (p := ⟨w.heap.size, 10, none⟩) hlX).trans e10))
        go_wp2_with fail
        go_ret2
        exact ⟨hbX.trans (hb3.mono hbX.size), .inl ⟨d, HN.out, by rw [HV.out]; rfl⟩⟩
      · have HN := Lib.hid (show doS s = none by rw [HDO.out]; simp [hsz])
        have q116 : decide ((116 : Int) < (tx.size : Int)) = true := by simp; omega
        clear hsz
        go_wp2_with fail
        go_region_held3 (fun w' => w'.cell? ⟨w.heap.size, 0, none⟩ = some (.int .i64 s.kind) ∧ w'.cell? ⟨w.heap.size, 1, none⟩ = some (.string s.name) ∧ w'.cell? ⟨w.heap.size, 2, none⟩ = some (.string s.typ) ∧ w'.cell? ⟨w.heap.size, 3, none⟩ = some (.int .i64 s.e.kind) ∧ w'.cell? ⟨w.heap.size, 4, none⟩ = some (.int .i64 s.e.n) ∧ w'.cell? ⟨w.heap.size, 5, none⟩ = some (.string s.e.s) ∧ w'.cell? ⟨w.heap.size, 6, none⟩ = some (.slice A1 s.e.kids.length c1) ∧ w'.cell? ⟨w.heap.size, 7, none⟩ = some (.int .i64 s.t.kind) ∧ w'.cell? ⟨w.heap.size, 8, none⟩ = some (.int .i64 s.t.n) ∧ w'.cell? ⟨w.heap.size, 9, none⟩ = some (.string s.t.s) ∧ w'.cell? ⟨w.heap.size, 10, none⟩ = some (.slice A2 s.t.kids.length c2))
          (first | exact ⟨x0, x1, x2, x3, x4, x5, x6, x7, x8, x9, x10⟩ | exact ⟨y0, y1, y2, y3, y4, y5, y6, y7, y8, y9, y10⟩ | exact ⟨z0, z1, z2, z3, z4, z5, z6, z7, z8, z9, z10⟩ | exact ⟨(cell_drew0 _ _).trans e0, (cell_drew0 _ _).trans e1, (cell_drew0 _ _).trans e2, (cell_drew0 _ _).trans e3, (cell_drew0 _ _).trans e4, (cell_drew0 _ _).trans e5, (cell_drew0 _ _).trans e6, (cell_drew0 _ _).trans e7, (cell_drew0 _ _).trans e8, (cell_drew0 _ _).trans e9, (cell_drew0 _ _).trans e10⟩)
          (first | (refine (HST.out _).mono ?_; rintro r w1 ⟨X1, k1, X2, k2, mid, rfl, hk1, hk2, hO1, hO2, hmid, hb1'⟩; have hb1 : Below X.heap.size X w1 := (Below.refl _ X).drew.trans hb1'; have z0 := (hb1.cell (p := ⟨w.heap.size, 0, none⟩) hlX).trans e0; have z1 := (hb1.cell (p := ⟨w.heap.size, 1, none⟩) hlX).trans e1; have z2 := (hb1.cell (p := ⟨w.heap.size, 2, none⟩) hlX).trans e2; have z3 := (hb1.cell (p := ⟨w.heap.size, 3, none⟩) hlX).trans e3; have z4 := (hb1.cell (p := ⟨w.heap.size, 4, none⟩) hlX).trans e4; have z5 := (hb1.cell (p := ⟨w.heap.size, 5, none⟩) hlX).trans e5; have z6 := (hb1.cell (p := ⟨w.heap.size, 6, none⟩) hlX).trans e6; have z7 := (hb1.cell (p := ⟨w.heap.size, 7, none⟩) hlX).trans e7; have z8 := (hb1.cell (p := ⟨w.heap.size, 8, none⟩) hlX).trans e8; have z9 := (hb1.cell (p := ⟨w.heap.size, 9, none⟩) hlX).trans e9; have z10 := (hb1.cell (p := ⟨w.heap.size, 10, none⟩) hlX).trans e10; have KA := HOU.out w1 _ _ _ X1 hO1 hmid; have KB := HOU.out w1 _ _ _ X2 hO2 (Nat.le_refl _)) | (go_at_call 51; refine (HSS.out _ X1 X2 k1 k2 hb1 KA KB hk1 hk2).mono ?_; rintro r w2 ⟨rfl, hb2'⟩; have hb2 : Below X.heap.size X w2 := hb1.trans (hb2'.mono hb1.size); have y0 := (hb2.cell (p := ⟨w.heap.size, 0, none⟩) hlX).trans e0; have y1 := (hb2.cell (p := ⟨w.heap.size, 1, none⟩) hlX).trans e1; have y2 := (hb2.cell (p := ⟨w.heap.size, 2, none⟩) hlX).trans e2; have y3 := (hb2.cell (p := ⟨w.heap.size, 3, none⟩) hlX).trans e3; have y4 := (hb2.cell (p := ⟨w.heap.size, 4, none⟩) hlX).trans e4; have y5 := (hb2.cell (p := ⟨w.heap.size, 5, none⟩) hlX).trans e5; have y6 := (hb2.cell (p := ⟨w.heap.size, 6, none⟩) hlX).trans e6; have y7 := (hb2.cell (p := ⟨w.heap.size, 7, none⟩) hlX).trans e7; have y8 := (hb2.cell (p := ⟨w.heap.size, 8, none⟩) hlX).trans e8; have y9 := (hb2.cell (p := ⟨w.heap.size, 9, none⟩) hlX).trans e9; have y10 := (hb2.cell (p := ⟨w.heap.size, 10, none⟩) hlX).trans e10) | (go_at_call 52; refine (HDT.out _ hb2).mono ?_; rintro r w3 ⟨rfl, hb3'⟩; have hb3 : Below X.heap.size X w3 := hb2.trans (hb3'.mono hb2.size); have x0 := (hb3.cell (p := ⟨w.heap.size, 0, none⟩) hlX).trans e0; have x1 := (hb3.cell (p := ⟨w.heap.size, 1, none⟩) hlX).trans e1; have x2 := (hb3.cell (p := ⟨w.heap.size, 2, none⟩) hlX).trans e2; have x3 := (hb3.cell (p := ⟨w.heap.size, 3, none⟩) hlX).trans e3; have x4 := (hb3.cell (p := ⟨w.heap.size, 4, none⟩) hlX).trans e4; have x5 := (hb3.cell (p := ⟨w.heap.size, 5, none⟩) hlX).trans e5; have x6 := (hb3.cell (p := ⟨w.heap.size, 6, none⟩) hlX).trans e6; have x7 := (hb3.cell (p := ⟨w.heap.size, 7, none⟩) hlX).trans e7; have x8 := (hb3.cell (p := ⟨w.heap.size, 8, none⟩) hlX).trans e8; have x9 := (hb3.cell (p := ⟨w.heap.size, 9, none⟩) hlX).trans e9; have x10 := (hb3.cell (p := ⟨w.heap.size, 10, none⟩) hlX).trans e10))
        have g0 := (HLN.out.below (hbX.trans (hb3.mono hbX.size))).cell
        go_wp2_with fail
        go_quiet (fail)
        go_wp2_with fail
        go_ret2
        exact ⟨hbX.trans ((hb3.mono hbX.size).trans ((below_draws _).mono (Nat.le_trans hbX.size hb3.size))), .inr ⟨HN.out, rfl⟩⟩
  have q0 : (s.kind == 0) = false := by rw [beq_eq_false_iff_ne]; exact hk0
  by_cases hk1 : s.kind = 1
  · have q1 : (s.kind == 1) = true := by rw [beq_iff_eq]; exact hk1
    have q2 : (s.kind == 2) = false := by rw [beq_eq_false_iff_ne]; omega
    have q3 : (s.kind == 3) = false := by rw [beq_eq_false_iff_ne]; omega
    have HD1 := Lib.hid (show deS s = if nameB s.name = true ∧ typeB s.typ = true then (okP s.e).map (fun p => .letD s.name s.typ p) else none by unfold deS; rw [if_neg hk0, if_pos hk1])
    have HNM := Lib.hid (nameOk_any s.name X hns)
    have HTY := Lib.hid (fun V => typeOk_any s.typ V)
    clear hk0 hk1
    cases hnm : nameB s.name with
    | false =>
      rw [hnm] at HNM
      have HN := Lib.hid (show doS s = none by unfold doS; rw [HD1.out, hnm]; simp)
      clear hnm
      go_wp2_with fail
      refine HNM.out.mono ?_
      rintro r Y ⟨rfl, hbXY⟩
      have hbY := hbX.trans (hbXY.mono hbX.size)
      have hlY : w.heap.size < Y.heap.size := Nat.lt_of_lt_of_le hlX hbXY.size
      have ey0 := (hbXY.cell (p := ⟨w.heap.size, 0, none⟩) hlX).trans e0
      have ey1 := (hbXY.cell (p := ⟨w.heap.size, 1, none⟩) hlX).trans e1
      have ey2 := (hbXY.cell (p := ⟨w.heap.size, 2, none⟩) hlX).trans e2
      have ey3 := (hbXY.cell (p := ⟨w.heap.size, 3, none⟩) hlX).trans e3
      have ey4 := (hbXY.cell (p := ⟨w.heap.size, 4, none⟩) hlX).trans e4
      have ey5 := (hbXY.cell (p := ⟨w.heap.size, 5, none⟩) hlX).trans e5
      have ey6 := (hbXY.cell (p := ⟨w.heap.size, 6, none⟩) hlX).trans e6
      have ey7 := (hbXY.cell (p := ⟨w.heap.size, 7, none⟩) hlX).trans e7
      have ey8 := (hbXY.cell (p := ⟨w.heap.size, 8, none⟩) hlX).trans e8
      have ey9 := (hbXY.cell (p := ⟨w.heap.size, 9, none⟩) hlX).trans e9
      have ey10 := (hbXY.cell (p := ⟨w.heap.size, 10, none⟩) hlX).trans e10
      clear e0 e1 e2 e3 e4 e5 e6 e7 e8 e9 e10
      have g0 := (HLN.out.below hbY).cell
      go_wp2_with fail
      go_quiet (fail)
      go_wp2_with fail
      go_ret2
      exact ⟨hbY.trans ((below_draws _).mono hbY.size), .inr ⟨HN.out, rfl⟩⟩
    | true =>
      rw [hnm] at HNM
      cases hty : typeB s.typ with
      | false =>
        simp only [hty] at HTY
        have HN := Lib.hid (show doS s = none by unfold doS; rw [HD1.out, hty]; simp)
        clear hnm hty
        go_wp2_with fail
        refine HNM.out.mono ?_
        rintro r Y ⟨rfl, hbXY⟩
        have hbY := hbX.trans (hbXY.mono hbX.size)
        have hlY : w.heap.size < Y.heap.size := Nat.lt_of_lt_of_le hlX hbXY.size
        have ey0 := (hbXY.cell (p := ⟨w.heap.size, 0, none⟩) hlX).trans e0
        have ey1 := (hbXY.cell (p := ⟨w.heap.size, 1, none⟩) hlX).trans e1
        have ey2 := (hbXY.cell (p := ⟨w.heap.size, 2, none⟩) hlX).trans e2
        have ey3 := (hbXY.cell (p := ⟨w.heap.size, 3, none⟩) hlX).trans e3
        have ey4 := (hbXY.cell (p := ⟨w.heap.size, 4, none⟩) hlX).trans e4
        have ey5 := (hbXY.cell (p := ⟨w.heap.size, 5, none⟩) hlX).trans e5
        have ey6 := (hbXY.cell (p := ⟨w.heap.size, 6, none⟩) hlX).trans e6
        have ey7 := (hbXY.cell (p := ⟨w.heap.size, 7, none⟩) hlX).trans e7
        have ey8 := (hbXY.cell (p := ⟨w.heap.size, 8, none⟩) hlX).trans e8
        have ey9 := (hbXY.cell (p := ⟨w.heap.size, 9, none⟩) hlX).trans e9
        have ey10 := (hbXY.cell (p := ⟨w.heap.size, 10, none⟩) hlX).trans e10
        clear e0 e1 e2 e3 e4 e5 e6 e7 e8 e9 e10
        go_wp2_with fail
        refine (HTY.out _).mono ?_
        rintro r Y' ⟨rfl, rfl⟩
        have g0 := (HLN.out.below hbY).cell
        go_wp2_with fail
        go_quiet (fail)
        go_wp2_with fail
        go_ret2
        exact ⟨hbY.trans ((below_draws _).mono hbY.size), .inr ⟨HN.out, rfl⟩⟩
      | true =>
        simp only [hty] at HTY
        have HN0 := Lib.hid (show okP s.e = none → doS s = none from fun h => by unfold doS; rw [HD1.out, h]; simp)
        have HDS0 := Lib.hid (show ∀ p, okP s.e = some p → deS s = some (.letD s.name s.typ p) from fun p h => by rw [HD1.out, h, hnm, hty]; simp)
        have HFN := Lib.hid (show ∀ p, okP s.e = some p → (De.letD s.name s.typ p).fine = true from fun p h => by simp [De.fine, hnm, hty, (okP_some h).2])
        clear hnm hty HD1
        cases hok : okE s.e with
        | false =>
          have HN := Lib.hid (HN0.out (ok_none hok))
          clear hok
          go_wp2_with fail
          refine HNM.out.mono ?_
          rintro r Y ⟨rfl, hbXY⟩
          have hbY := hbX.trans (hbXY.mono hbX.size)
          have hlY : w.heap.size < Y.heap.size := Nat.lt_of_lt_of_le hlX hbXY.size
          have ey0 := (hbXY.cell (p := ⟨w.heap.size, 0, none⟩) hlX).trans e0
          have ey1 := (hbXY.cell (p := ⟨w.heap.size, 1, none⟩) hlX).trans e1
          have ey2 := (hbXY.cell (p := ⟨w.heap.size, 2, none⟩) hlX).trans e2
          have ey3 := (hbXY.cell (p := ⟨w.heap.size, 3, none⟩) hlX).trans e3
          have ey4 := (hbXY.cell (p := ⟨w.heap.size, 4, none⟩) hlX).trans e4
          have ey5 := (hbXY.cell (p := ⟨w.heap.size, 5, none⟩) hlX).trans e5
          have ey6 := (hbXY.cell (p := ⟨w.heap.size, 6, none⟩) hlX).trans e6
          have ey7 := (hbXY.cell (p := ⟨w.heap.size, 7, none⟩) hlX).trans e7
          have ey8 := (hbXY.cell (p := ⟨w.heap.size, 8, none⟩) hlX).trans e8
          have ey9 := (hbXY.cell (p := ⟨w.heap.size, 9, none⟩) hlX).trans e9
          have ey10 := (hbXY.cell (p := ⟨w.heap.size, 10, none⟩) hlX).trans e10
          clear e0 e1 e2 e3 e4 e5 e6 e7 e8 e9 e10
          go_wp2_with fail
          refine (HTY.out _).mono ?_
          rintro r Y' ⟨rfl, rfl⟩
          have g0 := (HLN.out.below hbY).cell
          go_wp2_with fail
          go_quiet (fail)
          go_wp2_with fail
          go_ret2
          exact ⟨hbY.trans ((below_draws _).mono hbY.size), .inr ⟨HN.out, rfl⟩⟩
        | true =>
          obtain ⟨p, hp⟩ := ok_some hok
          obtain rfl := HV1.out p hp
          obtain ⟨d, hd⟩ : ∃ d, d = De.letD s.name s.typ p := ⟨_, rfl⟩
          have hdf : d.fine = true := by rw [hd]; exact HFN.out p hp
          have HDS := Lib.hid (show deS s = some d by rw [hd]; exact HDS0.out p hp)
          have HVD := Lib.hid (show Value.iface 61 (.agg #[.string s.name, .string s.typ, partV p]) = .iface (deT d) (deU d) by rw [hd]; rfl)
          obtain ⟨tp, up, hpv⟩ := partV_if' p
          rw [hpv] at HVD ⊢
          clear hd hok hp hpv
          go_wp2_with fail
          refine HNM.out.mono ?_
          rintro r Y ⟨rfl, hbXY⟩
          have hbY := hbX.trans (hbXY.mono hbX.size)
          have hlY : w.heap.size < Y.heap.size := Nat.lt_of_lt_of_le hlX hbXY.size
          have ey0 := (hbXY.cell (p := ⟨w.heap.size, 0, none⟩) hlX).trans e0
          have ey1 := (hbXY.cell (p := ⟨w.heap.size, 1, none⟩) hlX).trans e1
          have ey2 := (hbXY.cell (p := ⟨w.heap.size, 2, none⟩) hlX).trans e2
          have ey3 := (hbXY.cell (p := ⟨w.heap.size, 3, none⟩) hlX).trans e3
          have ey4 := (hbXY.cell (p := ⟨w.heap.size, 4, none⟩) hlX).trans e4
          have ey5 := (hbXY.cell (p := ⟨w.heap.size, 5, none⟩) hlX).trans e5
          have ey6 := (hbXY.cell (p := ⟨w.heap.size, 6, none⟩) hlX).trans e6
          have ey7 := (hbXY.cell (p := ⟨w.heap.size, 7, none⟩) hlX).trans e7
          have ey8 := (hbXY.cell (p := ⟨w.heap.size, 8, none⟩) hlX).trans e8
          have ey9 := (hbXY.cell (p := ⟨w.heap.size, 9, none⟩) hlX).trans e9
          have ey10 := (hbXY.cell (p := ⟨w.heap.size, 10, none⟩) hlX).trans e10
          clear e0 e1 e2 e3 e4 e5 e6 e7 e8 e9 e10
          go_wp2_with fail
          refine (HTY.out _).mono ?_
          rintro r Y' ⟨rfl, rfl⟩
          go_wp2_with fail
          rw [HVD.out]
          have HST := Lib.hid (fun V => stmt_any d V)
          have HDT := Lib.hid (fun (V : World) (hV : Below Y.heap.size Y V) => deedText_any d hdf V (HL.out.below (hbY.trans (hV.mono hbY.size))))
          have HSS := Lib.hid (fun (V : World) (X1 X2 : Option Addr) (k1 k2 : Nat) (hV : Below Y.heap.size Y V) (h1 : KidsU V V.heap.size X1 d.st.e.kids) (h2 : KidsU V V.heap.size X2 d.st.t.kids) (h3 : d.st.e.kids.length ≤ k1) (h4 : d.st.t.kids.length ≤ k2) =>
            stmtSame_any d.st s X1 X2 A1 A2 k1 k2 c1 c2 V.heap.size V h1 h2 ((HA1.out.keep ((hbY.trans (hV.mono hbY.size)).mono hB)).wide (Nat.le_trans hB (Nat.le_trans hbY.size hV.size))) ((HA2.out.keep ((hbY.trans (hV.mono hbY.size)).mono hB)).wide (Nat.le_trans hB (Nat.le_trans hbY.size hV.size))) h3 h4 hc1 hc2 (Nat.le_refl _) (st_small hdf))
          have HOU := Lib.hid (fun (V : World) (lo hi : Nat) (x : Ex) (A : Option Addr) (h : OwnE V x lo hi A) (hh : hi ≤ V.heap.size) => own_kidsU x lo hi A V.heap.size h hh)
          obtain ⟨m1, n1, j1⟩ := meth_stmt d
          have HDO := Lib.hid (show doS s = if sameS d.st s = true ∧ d.text.size ≤ 116 then some d else none by unfold doS; rw [HDS.out]; rfl)
          have htx : d.text.size ≤ 2 ^ 40 := text_small hdf
          unfold deV at HDT
          unfold GivesSt stV at HST
          have HV := Lib.hid (show deV d = .iface (deT d) (deU d) from rfl)
          generalize d.text = tx at *
          generalize d.st = ds at *
          generalize deT d = t1 at *
          generalize deU d = u1 at *
          generalize fStmt d = f1 at *
          clear hdf
          cases hsm : sameS ds s with
          | false =>
            rw [hsm] at HDO
            have HN := Lib.hid (show doS s = none by rw [HDO.out]; simp)
            have HSM := Lib.hid hsm
            simp only [hsm] at HSS
            clear hsm
            go_wp2_with fail
            refine wp_region_noPanic ?_
            refine wp_region_held_drew (S := (fun w' => w'.cell? ⟨w.heap.size, 0, none⟩ = some (.int .i64 s.kind) ∧ w'.cell? ⟨w.heap.size, 1, none⟩ = some (.string s.name) ∧ w'.cell? ⟨w.heap.size, 2, none⟩ = some (.string s.typ) ∧ w'.cell? ⟨w.heap.size, 3, none⟩ = some (.int .i64 s.e.kind) ∧ w'.cell? ⟨w.heap.size, 4, none⟩ = some (.int .i64 s.e.n) ∧ w'.cell? ⟨w.heap.size, 5, none⟩ = some (.string s.e.s) ∧ w'.cell? ⟨w.heap.size, 6, none⟩ = some (.slice A1 s.e.kids.length c1) ∧ w'.cell? ⟨w.heap.size, 7, none⟩ = some (.int .i64 s.t.kind) ∧ w'.cell? ⟨w.heap.size, 8, none⟩ = some (.int .i64 s.t.n) ∧ w'.cell? ⟨w.heap.size, 9, none⟩ = some (.string s.t.s) ∧ w'.cell? ⟨w.heap.size, 10, none⟩ = some (.slice A2 s.t.kids.length c2))) (by kernel_rfl) (by exact ⟨ey0, ey1, ey2, ey3, ey4, ey5, ey6, ey7, ey8, ey9, ey10⟩) (fun hHeld => ?_)
            refine wpAnyH_take (i := 0) (v := ?valF0T2) rfl (by kernel_rfl) (by kernel_rfl) (by kernel_rfl) (fun _ _ _ h => h) (Or.inl ⟨by rfl, ?yieF0T2⟩) (by assumption) ?resF0T2
            case yieF0T2 =>
              intro w hSw
              try dsimp only at hSw
              try obtain ⟨s0, s1, s2, s3, s4, s5, s6, s7, s8, s9, s10⟩ := hSw
              go_simp
              try with_reducible rfl
            try simp only [Act.put, List.setIfInBounds_toArray, List.set_cons_zero, List.set_cons_succ, List.getElem_toArray, List.getElem_cons_zero, List.getElem_cons_succ]
            refine wpAnyH_take (i := 2) (v := ?valF2T2) rfl (by kernel_rfl) (by kernel_rfl) (by kernel_rfl) (fun _ _ _ h => h) (Or.inl ⟨by rfl, ?yieF2T2⟩) (by assumption) ?resF2T2
            case yieF2T2 =>
              intro w hSw
              try dsimp only at hSw
              try obtain ⟨s0, s1, s2, s3, s4, s5, s6, s7, s8, s9, s10⟩ := hSw
              go_simp
              try with_reducible rfl
            try simp only [Act.put, List.setIfInBounds_toArray, List.set_cons_zero, List.set_cons_succ, List.getElem_toArray, List.getElem_cons_zero, List.getElem_cons_succ]
            refine wpAnyH_ready (rs := [1]) (by kernel_rfl) (by simp) ?_
            refine AllReadyH.cons rfl (fun K hK => ?_) AllReadyH.nil
            go_simp
            refine (HST.out _).mono ?_
            rintro r w1 ⟨X1, k1, X2, k2, mid, rfl, hk1, hk2, hO1, hO2, hmid, hb1'⟩; have hb1 : Below Y.heap.size Y w1 := (Below.refl _ Y).drew.trans hb1'; have z0 := (hb1.cell (p := ⟨w.heap.size, 0, none⟩) hlY).trans ey0; have z1 := (hb1.cell (p := ⟨w.heap.size, 1, none⟩) hlY).trans ey1; have z2 := (hb1.cell (p := ⟨w.heap.size, 2, none⟩) hlY).trans ey2; have z3 := (hb1.cell (p := ⟨w.heap.size, 3, none⟩) hlY).trans ey3; have z4 := (hb1.cell (p := ⟨w.heap.size, 4, none⟩) hlY).trans ey4; have z5 := (hb1.cell (p := ⟨w.heap.size, 5, none⟩) hlY).trans ey5; have z6 := (hb1.cell (p := ⟨w.heap.size, 6, none⟩) hlY).trans ey6; have z7 := (hb1.cell (p := ⟨w.heap.size, 7, none⟩) hlY).trans ey7; have z8 := (hb1.cell (p := ⟨w.heap.size, 8, none⟩) hlY).trans ey8; have z9 := (hb1.cell (p := ⟨w.heap.size, 9, none⟩) hlY).trans ey9; have z10 := (hb1.cell (p := ⟨w.heap.size, 10, none⟩) hlY).trans ey10; have KA := HOU.out w1 _ _ _ X1 hO1 hmid; have KB := HOU.out w1 _ _ _ X2 hO2 (Nat.le_refl _)
            go_wp2_with fail
            refine hK.out _ _ (by exact ⟨z0, z1, z2, z3, z4, z5, z6, z7, z8, z9, z10⟩) (fun hHeld => ?_)
            clear hK K
            try simp only [Act.put, List.setIfInBounds_toArray, List.set_cons_zero, List.set_cons_succ, List.getElem_toArray, List.getElem_cons_zero, List.getElem_cons_succ]
            refine wpAnyH_ready (rs := [3]) (by kernel_rfl) (by simp) ?_
            refine AllReadyH.cons rfl (fun K hK => ?_) AllReadyH.nil
            go_simp
            refine (HSS.out _ X1 X2 k1 k2 hb1 KA KB hk1 hk2).mono ?_
            rintro r w2 ⟨rfl, hb2'⟩; have hb2 : Below Y.heap.size Y w2 := hb1.trans (hb2'.mono hb1.size); have y0 := (hb2.cell (p := ⟨w.heap.size, 0, none⟩) hlY).trans ey0; have y1 := (hb2.cell (p := ⟨w.heap.size, 1, none⟩) hlY).trans ey1; have y2 := (hb2.cell (p := ⟨w.heap.size, 2, none⟩) hlY).trans ey2; have y3 := (hb2.cell (p := ⟨w.heap.size, 3, none⟩) hlY).trans ey3; have y4 := (hb2.cell (p := ⟨w.heap.size, 4, none⟩) hlY).trans ey4; have y5 := (hb2.cell (p := ⟨w.heap.size, 5, none⟩) hlY).trans ey5; have y6 := (hb2.cell (p := ⟨w.heap.size, 6, none⟩) hlY).trans ey6; have y7 := (hb2.cell (p := ⟨w.heap.size, 7, none⟩) hlY).trans ey7; have y8 := (hb2.cell (p := ⟨w.heap.size, 8, none⟩) hlY).trans ey8; have y9 := (hb2.cell (p := ⟨w.heap.size, 9, none⟩) hlY).trans ey9; have y10 := (hb2.cell (p := ⟨w.heap.size, 10, none⟩) hlY).trans ey10
            go_wp2_with fail
            refine hK.out _ _ (by exact ⟨y0, y1, y2, y3, y4, y5, y6, y7, y8, y9, y10⟩) (fun hHeld => ?_)
            clear hK K
            try simp only [Act.put, List.setIfInBounds_toArray, List.set_cons_zero, List.set_cons_succ, List.getElem_toArray, List.getElem_cons_zero, List.getElem_cons_succ]
            refine wpAnyH_take (i := 4) (v := ?valF4T2) rfl (by kernel_rfl) (by kernel_rfl) (by kernel_rfl) (fun _ _ _ h => h) (Or.inl ⟨by rfl, ?yieF4T2⟩) (by assumption) ?resF4T2
            case yieF4T2 =>
              intro w hSw
              try dsimp only at hSw
              try obtain ⟨s0, s1, s2, s3, s4, s5, s6, s7, s8, s9, s10⟩ := hSw
              go_simp
              try with_reducible rfl
            try simp only [Act.put, List.setIfInBounds_toArray, List.set_cons_zero, List.set_cons_succ, List.getElem_toArray, List.getElem_cons_zero, List.getElem_cons_succ]
            refine wpAnyH_take (i := 5) (v := ?valF5T2) rfl (by kernel_rfl) (by kernel_rfl) (by kernel_rfl) (fun _ _ _ h => h) (Or.inl ⟨by rfl, ?yieF5T2⟩) (by assumption) ?resF5T2
            case yieF5T2 =>
              intro w hSw
              try dsimp only at hSw
              try obtain ⟨s0, s1, s2, s3, s4, s5, s6, s7, s8, s9, s10⟩ := hSw
              go_simp
              try with_reducible rfl
            try simp only [Act.put, List.setIfInBounds_toArray, List.set_cons_zero, List.set_cons_succ, List.getElem_toArray, List.getElem_cons_zero, List.getElem_cons_succ]
            refine wpAnyH_take (i := 6) (v := undef) rfl (by kernel_rfl) (by kernel_rfl) (by kernel_rfl) (fun _ _ _ h => h) (Or.inr ⟨by rfl, rfl⟩) (by assumption) ?_
            try simp only [Act.put, List.setIfInBounds_toArray, List.set_cons_zero, List.set_cons_succ, List.getElem_toArray, List.getElem_cons_zero, List.getElem_cons_succ]
            refine wpAnyH_take (i := 7) (v := undef) rfl (by kernel_rfl) (by kernel_rfl) (by kernel_rfl) (fun _ _ _ h => h) (Or.inr ⟨by rfl, rfl⟩) (by assumption) ?_
            try simp only [Act.put, List.setIfInBounds_toArray, List.set_cons_zero, List.set_cons_succ, List.getElem_toArray, List.getElem_cons_zero, List.getElem_cons_succ]
            refine wpAnyH_take (i := 8) (v := undef) rfl (by kernel_rfl) (by kernel_rfl) (by kernel_rfl) (fun _ _ _ h => h) (Or.inr ⟨by rfl, rfl⟩) (by assumption) ?_
            try simp only [Act.put, List.setIfInBounds_toArray, List.set_cons_zero, List.set_cons_succ, List.getElem_toArray, List.getElem_cons_zero, List.getElem_cons_succ]
            refine wpAnyH_take (i := 9) (v := undef) rfl (by kernel_rfl) (by kernel_rfl) (by kernel_rfl) (fun _ _ _ h => h) (Or.inr ⟨by rfl, rfl⟩) (by assumption) ?_
            try simp only [Act.put, List.setIfInBounds_toArray, List.set_cons_zero, List.set_cons_succ, List.getElem_toArray, List.getElem_cons_zero, List.getElem_cons_succ]
            refine wpAnyH_take (i := 10) (v := ?valF10T2) rfl (by kernel_rfl) (by kernel_rfl) (by kernel_rfl) (fun _ _ _ h => h) (Or.inl ⟨by rfl, ?yieF10T2⟩) (by assumption) ?resF10T2
            case yieF10T2 =>
              intro w hSw
              try dsimp only at hSw
              try obtain ⟨s0, s1, s2, s3, s4, s5, s6, s7, s8, s9, s10⟩ := hSw
              go_simp
              try with_reducible rfl
            try simp only [Act.put, List.setIfInBounds_toArray, List.set_cons_zero, List.set_cons_succ, List.getElem_toArray, List.getElem_cons_zero, List.getElem_cons_succ]
            refine wpAnyH_done (by kernel_rfl) ?_ _
            refine NoPanic.normal ?_
            have g0 := (HLN.out.below (hbY.trans (hb2.mono hbY.size))).cell
            go_wp2_with fail
            go_quiet (fail)
            go_wp2_with fail
            go_ret2
            exact ⟨hbY.trans ((hb2.mono hbY.size).trans ((below_draws _).mono (Nat.le_trans hbY.size hb2.size))), .inr ⟨HN.out, rfl⟩⟩
          | true =>
            rw [hsm] at HDO
            have HSM := Lib.hid hsm
            simp only [hsm] at HSS
            clear hsm
            by_cases hsz : tx.size ≤ 116
            · have HN := Lib.hid (show doS s = some d by rw [HDO.out]; simp [hsz])
              have q116 : decide ((116 : Int) < (tx.size : Int)) = false := by simp; omega
              clear hsz
              go_wp2_with fail
              go_region_held3 (fun w' => w'.cell? ⟨w.heap.size, 0, none⟩ = some (.int .i64 s.kind) ∧ w'.cell? ⟨w.heap.size, 1, none⟩ = some (.string s.name) ∧ w'.cell? ⟨w.heap.size, 2, none⟩ = some (.string s.typ) ∧ w'.cell? ⟨w.heap.size, 3, none⟩ = some (.int .i64 s.e.kind) ∧ w'.cell? ⟨w.heap.size, 4, none⟩ = some (.int .i64 s.e.n) ∧ w'.cell? ⟨w.heap.size, 5, none⟩ = some (.string s.e.s) ∧ w'.cell? ⟨w.heap.size, 6, none⟩ = some (.slice A1 s.e.kids.length c1) ∧ w'.cell? ⟨w.heap.size, 7, none⟩ = some (.int .i64 s.t.kind) ∧ w'.cell? ⟨w.heap.size, 8, none⟩ = some (.int .i64 s.t.n) ∧ w'.cell? ⟨w.heap.size, 9, none⟩ = some (.string s.t.s) ∧ w'.cell? ⟨w.heap.size, 10, none⟩ = some (.slice A2 s.t.kids.length c2))
                (first | exact ⟨x0, x1, x2, x3, x4, x5, x6, x7, x8, x9, x10⟩ | exact ⟨y0, y1, y2, y3, y4, y5, y6, y7, y8, y9, y10⟩ | exact ⟨z0, z1, z2, z3, z4, z5, z6, z7, z8, z9, z10⟩ | exact ⟨(cell_drew0 _ _).trans ey0, (cell_drew0 _ _).trans ey1, (cell_drew0 _ _).trans ey2, (cell_drew0 _ _).trans ey3, (cell_drew0 _ _).trans ey4, (cell_drew0 _ _).trans ey5, (cell_drew0 _ _).trans ey6, (cell_drew0 _ _).trans ey7, (cell_drew0 _ _).trans ey8, (cell_drew0 _ _).trans ey9, (cell_drew0 _ _).trans ey10⟩)
                (first | (refine (HST.out _).mono ?_; rintro r w1 ⟨X1, k1, X2, k2, mid, rfl, hk1, hk2, hO1, hO2, hmid, hb1'⟩; have hb1 : Below Y.heap.size Y w1 := (Below.refl _ Y).drew.trans hb1'; have z0 := (hb1.cell (p := ⟨w.heap.size, 0, none⟩) hlY).trans ey0; have z1 := (hb1.cell (p := ⟨w.heap.size, 1, none⟩) hlY).trans ey1; have z2 := (hb1.cell (p := ⟨w.heap.size, 2, none⟩) hlY).trans ey2; have z3 := (hb1.cell (p := ⟨w.heap.size, 3, none⟩) hlY).trans ey3; have z4 := (hb1.cell (p := ⟨w.heap.size, 4, none⟩) hlY).trans ey4; have z5 := (hb1.cell (p := ⟨w.heap.size, 5, none⟩) hlY).trans ey5; have z6 := (hb1.cell (p := ⟨w.heap.size, 6, none⟩) hlY).trans ey6; have z7 := (hb1.cell (p := ⟨w.heap.size, 7, none⟩) hlY).trans ey7; have z8 := (hb1.cell (p := ⟨w.heap.size, 8, none⟩) hlY).trans ey8; have z9 := (hb1.cell (p := ⟨w.heap.size, 9, none⟩) hlY).trans ey9; have z10 := (hb1.cell (p := ⟨w.heap.size, 10, none⟩) hlY).trans ey10; have KA := HOU.out w1 _ _ _ X1 hO1 hmid; have KB := HOU.out w1 _ _ _ X2 hO2 (Nat.le_refl _)) | (go_at_call 51; refine (HSS.out _ X1 X2 k1 k2 hb1 KA KB hk1 hk2).mono ?_; rintro r w2 ⟨rfl, hb2'⟩; have hb2 : Below Y.heap.size Y w2 := hb1.trans (hb2'.mono hb1.size); have y0 := (hb2.cell (p := ⟨w.heap.size, 0, none⟩) hlY).trans ey0; have y1 := (hb2.cell (p := ⟨w.heap.size, 1, none⟩) hlY).trans ey1; have y2 := (hb2.cell (p := ⟨w.heap.size, 2, none⟩) hlY).trans ey2; have y3 := (hb2.cell (p := ⟨w.heap.size, 3, none⟩) hlY).trans ey3; have y4 := (hb2.cell (p := ⟨w.heap.size, 4, none⟩) hlY).trans ey4; have y5 := (hb2.cell (p := ⟨w.heap.size, 5, none⟩) hlY).trans ey5; have y6 := (hb2.cell (p := ⟨w.heap.size, 6, none⟩) hlY).trans ey6; have y7 := (hb2.cell (p := ⟨w.heap.size, 7, none⟩) hlY).trans ey7; have y8 := (hb2.cell (p := ⟨w.heap.size, 8, none⟩) hlY).trans ey8; have y9 := (hb2.cell (p := ⟨w.heap.size, 9, none⟩) hlY).trans ey9; have y10 := (hb2.cell (p := ⟨w.heap.size, 10, none⟩) hlY).trans ey10) | (go_at_call 52; refine (HDT.out _ hb2).mono ?_; rintro r w3 ⟨rfl, hb3'⟩; have hb3 : Below Y.heap.size Y w3 := hb2.trans (hb3'.mono hb2.size); have x0 := (hb3.cell (p := ⟨w.heap.size, 0, none⟩) hlY).trans ey0; have x1 := (hb3.cell (p := ⟨w.heap.size, 1, none⟩) hlY).trans ey1; have x2 := (hb3.cell (p := ⟨w.heap.size, 2, none⟩) hlY).trans ey2; have x3 := (hb3.cell (p := ⟨w.heap.size, 3, none⟩) hlY).trans ey3; have x4 := (hb3.cell (p := ⟨w.heap.size, 4, none⟩) hlY).trans ey4; have x5 := (hb3.cell (p := ⟨w.heap.size, 5, none⟩) hlY).trans ey5; have x6 := (hb3.cell (p := ⟨w.heap.size, 6, none⟩) hlY).trans ey6; have x7 := (hb3.cell (p := ⟨w.heap.size, 7, none⟩) hlY).trans ey7; have x8 := (hb3.cell (p := ⟨w.heap.size, 8, none⟩) hlY).trans ey8; have x9 := (hb3.cell (p := ⟨w.heap.size, 9, none⟩) hlY).trans ey9; have x10 := (hb3.cell (p := ⟨w.heap.size, 10, none⟩) hlY).trans ey10))
              go_wp2_with fail
              go_ret2
              exact ⟨hbY.trans (hb3.mono hbY.size), .inl ⟨d, HN.out, by rw [HV.out]; rfl⟩⟩
            · have HN := Lib.hid (show doS s = none by rw [HDO.out]; simp [hsz])
              have q116 : decide ((116 : Int) < (tx.size : Int)) = true := by simp; omega
              clear hsz
              go_wp2_with fail
              go_region_held3 (fun w' => w'.cell? ⟨w.heap.size, 0, none⟩ = some (.int .i64 s.kind) ∧ w'.cell? ⟨w.heap.size, 1, none⟩ = some (.string s.name) ∧ w'.cell? ⟨w.heap.size, 2, none⟩ = some (.string s.typ) ∧ w'.cell? ⟨w.heap.size, 3, none⟩ = some (.int .i64 s.e.kind) ∧ w'.cell? ⟨w.heap.size, 4, none⟩ = some (.int .i64 s.e.n) ∧ w'.cell? ⟨w.heap.size, 5, none⟩ = some (.string s.e.s) ∧ w'.cell? ⟨w.heap.size, 6, none⟩ = some (.slice A1 s.e.kids.length c1) ∧ w'.cell? ⟨w.heap.size, 7, none⟩ = some (.int .i64 s.t.kind) ∧ w'.cell? ⟨w.heap.size, 8, none⟩ = some (.int .i64 s.t.n) ∧ w'.cell? ⟨w.heap.size, 9, none⟩ = some (.string s.t.s) ∧ w'.cell? ⟨w.heap.size, 10, none⟩ = some (.slice A2 s.t.kids.length c2))
                (first | exact ⟨x0, x1, x2, x3, x4, x5, x6, x7, x8, x9, x10⟩ | exact ⟨y0, y1, y2, y3, y4, y5, y6, y7, y8, y9, y10⟩ | exact ⟨z0, z1, z2, z3, z4, z5, z6, z7, z8, z9, z10⟩ | exact ⟨(cell_drew0 _ _).trans ey0, (cell_drew0 _ _).trans ey1, (cell_drew0 _ _).trans ey2, (cell_drew0 _ _).trans ey3, (cell_drew0 _ _).trans ey4, (cell_drew0 _ _).trans ey5, (cell_drew0 _ _).trans ey6, (cell_drew0 _ _).trans ey7, (cell_drew0 _ _).trans ey8, (cell_drew0 _ _).trans ey9, (cell_drew0 _ _).trans ey10⟩)
                (first | (refine (HST.out _).mono ?_; rintro r w1 ⟨X1, k1, X2, k2, mid, rfl, hk1, hk2, hO1, hO2, hmid, hb1'⟩; have hb1 : Below Y.heap.size Y w1 := (Below.refl _ Y).drew.trans hb1'; have z0 := (hb1.cell (p := ⟨w.heap.size, 0, none⟩) hlY).trans ey0; have z1 := (hb1.cell (p := ⟨w.heap.size, 1, none⟩) hlY).trans ey1; have z2 := (hb1.cell (p := ⟨w.heap.size, 2, none⟩) hlY).trans ey2; have z3 := (hb1.cell (p := ⟨w.heap.size, 3, none⟩) hlY).trans ey3; have z4 := (hb1.cell (p := ⟨w.heap.size, 4, none⟩) hlY).trans ey4; have z5 := (hb1.cell (p := ⟨w.heap.size, 5, none⟩) hlY).trans ey5; have z6 := (hb1.cell (p := ⟨w.heap.size, 6, none⟩) hlY).trans ey6; have z7 := (hb1.cell (p := ⟨w.heap.size, 7, none⟩) hlY).trans ey7; have z8 := (hb1.cell (p := ⟨w.heap.size, 8, none⟩) hlY).trans ey8; have z9 := (hb1.cell (p := ⟨w.heap.size, 9, none⟩) hlY).trans ey9; have z10 := (hb1.cell (p := ⟨w.heap.size, 10, none⟩) hlY).trans ey10; have KA := HOU.out w1 _ _ _ X1 hO1 hmid; have KB := HOU.out w1 _ _ _ X2 hO2 (Nat.le_refl _)) | (go_at_call 51; refine (HSS.out _ X1 X2 k1 k2 hb1 KA KB hk1 hk2).mono ?_; rintro r w2 ⟨rfl, hb2'⟩; have hb2 : Below Y.heap.size Y w2 := hb1.trans (hb2'.mono hb1.size); have y0 := (hb2.cell (p := ⟨w.heap.size, 0, none⟩) hlY).trans ey0; have y1 := (hb2.cell (p := ⟨w.heap.size, 1, none⟩) hlY).trans ey1; have y2 := (hb2.cell (p := ⟨w.heap.size, 2, none⟩) hlY).trans ey2; have y3 := (hb2.cell (p := ⟨w.heap.size, 3, none⟩) hlY).trans ey3; have y4 := (hb2.cell (p := ⟨w.heap.size, 4, none⟩) hlY).trans ey4; have y5 := (hb2.cell (p := ⟨w.heap.size, 5, none⟩) hlY).trans ey5; have y6 := (hb2.cell (p := ⟨w.heap.size, 6, none⟩) hlY).trans ey6; have y7 := (hb2.cell (p := ⟨w.heap.size, 7, none⟩) hlY).trans ey7; have y8 := (hb2.cell (p := ⟨w.heap.size, 8, none⟩) hlY).trans ey8; have y9 := (hb2.cell (p := ⟨w.heap.size, 9, none⟩) hlY).trans ey9; have y10 := (hb2.cell (p := ⟨w.heap.size, 10, none⟩) hlY).trans ey10) | (go_at_call 52; refine (HDT.out _ hb2).mono ?_; rintro r w3 ⟨rfl, hb3'⟩; have hb3 : Below Y.heap.size Y w3 := hb2.trans (hb3'.mono hb2.size); have x0 := (hb3.cell (p := ⟨w.heap.size, 0, none⟩) hlY).trans ey0; have x1 := (hb3.cell (p := ⟨w.heap.size, 1, none⟩) hlY).trans ey1; have x2 := (hb3.cell (p := ⟨w.heap.size, 2, none⟩) hlY).trans ey2; have x3 := (hb3.cell (p := ⟨w.heap.size, 3, none⟩) hlY).trans ey3; have x4 := (hb3.cell (p := ⟨w.heap.size, 4, none⟩) hlY).trans ey4; have x5 := (hb3.cell (p := ⟨w.heap.size, 5, none⟩) hlY).trans ey5; have x6 := (hb3.cell (p := ⟨w.heap.size, 6, none⟩) hlY).trans ey6; have x7 := (hb3.cell (p := ⟨w.heap.size, 7, none⟩) hlY).trans ey7; have x8 := (hb3.cell (p := ⟨w.heap.size, 8, none⟩) hlY).trans ey8; have x9 := (hb3.cell (p := ⟨w.heap.size, 9, none⟩) hlY).trans ey9; have x10 := (hb3.cell (p := ⟨w.heap.size, 10, none⟩) hlY).trans ey10))
              have g0 := (HLN.out.below (hbY.trans (hb3.mono hbY.size))).cell
              go_wp2_with fail
              go_quiet (fail)
              go_wp2_with fail
              go_ret2
              exact ⟨hbY.trans ((hb3.mono hbY.size).trans ((below_draws _).mono (Nat.le_trans hbY.size hb3.size))), .inr ⟨HN.out, rfl⟩⟩
  have q1 : (s.kind == 1) = false := by rw [beq_eq_false_iff_ne]; exact hk1
  by_cases hk2 : s.kind = 2
  · have q2 : (s.kind == 2) = true := by rw [beq_iff_eq]; exact hk2
    have q3 : (s.kind == 3) = false := by rw [beq_eq_false_iff_ne]; omega
    have HD1 := Lib.hid (show deS s = (okP s.e).map (fun p => .sayD p) by unfold deS; rw [if_neg hk0, if_neg hk1, if_pos hk2])
    clear hk0 hk1 hk2
    cases hok : okE s.e with
    | false =>
      have HN := Lib.hid (show doS s = none by unfold doS; rw [HD1.out, ok_none hok]; rfl)
      have g0 := (HLN.out.below hbX).cell
      clear hok
      go_wp2_with fail
      go_quiet (fail)
      go_wp2_with fail
      go_ret2
      exact ⟨hbX.trans ((below_draws _).mono hbX.size), .inr ⟨HN.out, rfl⟩⟩
    | true =>
      obtain ⟨p, hp⟩ := ok_some hok
      obtain rfl := HV1.out p hp
      obtain ⟨d, hd⟩ : ∃ d, d = De.sayD p := ⟨_, rfl⟩
      have hdf : d.fine = true := by rw [hd]; exact (okP_some hp).2
      have HDS := Lib.hid (show deS s = some d by rw [HD1.out, hp, hd]; rfl)
      have HVD := Lib.hid (show Value.iface 78 (.agg #[partV p]) = .iface (deT d) (deU d) by rw [hd]; rfl)
      obtain ⟨tp, up, hpv⟩ := partV_if' p
      rw [hpv] at HVD ⊢
      clear hd hok hp HD1 hpv
      go_wp2_with fail
      rw [HVD.out]
      have HST := Lib.hid (fun V => stmt_any d V)
      have HDT := Lib.hid (fun (V : World) (hV : Below X.heap.size X V) => deedText_any d hdf V (HL.out.below (hbX.trans (hV.mono hbX.size))))
      have HSS := Lib.hid (fun (V : World) (X1 X2 : Option Addr) (k1 k2 : Nat) (hV : Below X.heap.size X V) (h1 : KidsU V V.heap.size X1 d.st.e.kids) (h2 : KidsU V V.heap.size X2 d.st.t.kids) (h3 : d.st.e.kids.length ≤ k1) (h4 : d.st.t.kids.length ≤ k2) =>
        stmtSame_any d.st s X1 X2 A1 A2 k1 k2 c1 c2 V.heap.size V h1 h2 ((HA1.out.keep ((hbX.trans (hV.mono hbX.size)).mono hB)).wide (Nat.le_trans hB (Nat.le_trans hbX.size hV.size))) ((HA2.out.keep ((hbX.trans (hV.mono hbX.size)).mono hB)).wide (Nat.le_trans hB (Nat.le_trans hbX.size hV.size))) h3 h4 hc1 hc2 (Nat.le_refl _) (st_small hdf))
      have HOU := Lib.hid (fun (V : World) (lo hi : Nat) (x : Ex) (A : Option Addr) (h : OwnE V x lo hi A) (hh : hi ≤ V.heap.size) => own_kidsU x lo hi A V.heap.size h hh)
      obtain ⟨m1, n1, j1⟩ := meth_stmt d
      have HDO := Lib.hid (show doS s = if sameS d.st s = true ∧ d.text.size ≤ 116 then some d else none by unfold doS; rw [HDS.out]; rfl)
      have htx : d.text.size ≤ 2 ^ 40 := text_small hdf
      unfold deV at HDT
      unfold GivesSt stV at HST
      have HV := Lib.hid (show deV d = .iface (deT d) (deU d) from rfl)
      generalize d.text = tx at *
      generalize d.st = ds at *
      generalize deT d = t1 at *
      generalize deU d = u1 at *
      generalize fStmt d = f1 at *
      clear hdf
      cases hsm : sameS ds s with
      | false =>
        rw [hsm] at HDO
        have HN := Lib.hid (show doS s = none by rw [HDO.out]; simp)
        have HSM := Lib.hid hsm
        simp only [hsm] at HSS
        clear hsm
        go_wp2_with fail
        refine wp_region_noPanic ?_
        refine wp_region_held_drew (S := (fun w' => w'.cell? ⟨w.heap.size, 0, none⟩ = some (.int .i64 s.kind) ∧ w'.cell? ⟨w.heap.size, 1, none⟩ = some (.string s.name) ∧ w'.cell? ⟨w.heap.size, 2, none⟩ = some (.string s.typ) ∧ w'.cell? ⟨w.heap.size, 3, none⟩ = some (.int .i64 s.e.kind) ∧ w'.cell? ⟨w.heap.size, 4, none⟩ = some (.int .i64 s.e.n) ∧ w'.cell? ⟨w.heap.size, 5, none⟩ = some (.string s.e.s) ∧ w'.cell? ⟨w.heap.size, 6, none⟩ = some (.slice A1 s.e.kids.length c1) ∧ w'.cell? ⟨w.heap.size, 7, none⟩ = some (.int .i64 s.t.kind) ∧ w'.cell? ⟨w.heap.size, 8, none⟩ = some (.int .i64 s.t.n) ∧ w'.cell? ⟨w.heap.size, 9, none⟩ = some (.string s.t.s) ∧ w'.cell? ⟨w.heap.size, 10, none⟩ = some (.slice A2 s.t.kids.length c2))) (by kernel_rfl) (by exact ⟨e0, e1, e2, e3, e4, e5, e6, e7, e8, e9, e10⟩) (fun hHeld => ?_)
        refine wpAnyH_take (i := 0) (v := ?valF0T3) rfl (by kernel_rfl) (by kernel_rfl) (by kernel_rfl) (fun _ _ _ h => h) (Or.inl ⟨by rfl, ?yieF0T3⟩) (by assumption) ?resF0T3
        case yieF0T3 =>
          intro w hSw
          try dsimp only at hSw
          try obtain ⟨s0, s1, s2, s3, s4, s5, s6, s7, s8, s9, s10⟩ := hSw
          go_simp
          try with_reducible rfl
        try simp only [Act.put, List.setIfInBounds_toArray, List.set_cons_zero, List.set_cons_succ, List.getElem_toArray, List.getElem_cons_zero, List.getElem_cons_succ]
        refine wpAnyH_take (i := 2) (v := ?valF2T3) rfl (by kernel_rfl) (by kernel_rfl) (by kernel_rfl) (fun _ _ _ h => h) (Or.inl ⟨by rfl, ?yieF2T3⟩) (by assumption) ?resF2T3
        case yieF2T3 =>
          intro w hSw
          try dsimp only at hSw
          try obtain ⟨s0, s1, s2, s3, s4, s5, s6, s7, s8, s9, s10⟩ := hSw
          go_simp
          try with_reducible rfl
        try simp only [Act.put, List.setIfInBounds_toArray, List.set_cons_zero, List.set_cons_succ, List.getElem_toArray, List.getElem_cons_zero, List.getElem_cons_succ]
        refine wpAnyH_ready (rs := [1]) (by kernel_rfl) (by simp) ?_
        refine AllReadyH.cons rfl (fun K hK => ?_) AllReadyH.nil
        go_simp
        refine (HST.out _).mono ?_
        rintro r w1 ⟨X1, k1, X2, k2, mid, rfl, hk1, hk2, hO1, hO2, hmid, hb1'⟩; have hb1 : Below X.heap.size X w1 := (Below.refl _ X).drew.trans hb1'; have z0 := (hb1.cell (p := ⟨w.heap.size, 0, none⟩) hlX).trans e0; have z1 := (hb1.cell (p := ⟨w.heap.size, 1, none⟩) hlX).trans e1; have z2 := (hb1.cell (p := ⟨w.heap.size, 2, none⟩) hlX).trans e2; have z3 := (hb1.cell (p := ⟨w.heap.size, 3, none⟩) hlX).trans e3; have z4 := (hb1.cell (p := ⟨w.heap.size, 4, none⟩) hlX).trans e4; have z5 := (hb1.cell (p := ⟨w.heap.size, 5, none⟩) hlX).trans e5; have z6 := (hb1.cell (p := ⟨w.heap.size, 6, none⟩) hlX).trans e6; have z7 := (hb1.cell (p := ⟨w.heap.size, 7, none⟩) hlX).trans e7; have z8 := (hb1.cell (p := ⟨w.heap.size, 8, none⟩) hlX).trans e8; have z9 := (hb1.cell (p := ⟨w.heap.size, 9, none⟩) hlX).trans e9; have z10 := (hb1.cell (p := ⟨w.heap.size, 10, none⟩) hlX).trans e10; have KA := HOU.out w1 _ _ _ X1 hO1 hmid; have KB := HOU.out w1 _ _ _ X2 hO2 (Nat.le_refl _)
        go_wp2_with fail
        refine hK.out _ _ (by exact ⟨z0, z1, z2, z3, z4, z5, z6, z7, z8, z9, z10⟩) (fun hHeld => ?_)
        clear hK K
        try simp only [Act.put, List.setIfInBounds_toArray, List.set_cons_zero, List.set_cons_succ, List.getElem_toArray, List.getElem_cons_zero, List.getElem_cons_succ]
        refine wpAnyH_ready (rs := [3]) (by kernel_rfl) (by simp) ?_
        refine AllReadyH.cons rfl (fun K hK => ?_) AllReadyH.nil
        go_simp
        refine (HSS.out _ X1 X2 k1 k2 hb1 KA KB hk1 hk2).mono ?_
        rintro r w2 ⟨rfl, hb2'⟩; have hb2 : Below X.heap.size X w2 := hb1.trans (hb2'.mono hb1.size); have y0 := (hb2.cell (p := ⟨w.heap.size, 0, none⟩) hlX).trans e0; have y1 := (hb2.cell (p := ⟨w.heap.size, 1, none⟩) hlX).trans e1; have y2 := (hb2.cell (p := ⟨w.heap.size, 2, none⟩) hlX).trans e2; have y3 := (hb2.cell (p := ⟨w.heap.size, 3, none⟩) hlX).trans e3; have y4 := (hb2.cell (p := ⟨w.heap.size, 4, none⟩) hlX).trans e4; have y5 := (hb2.cell (p := ⟨w.heap.size, 5, none⟩) hlX).trans e5; have y6 := (hb2.cell (p := ⟨w.heap.size, 6, none⟩) hlX).trans e6; have y7 := (hb2.cell (p := ⟨w.heap.size, 7, none⟩) hlX).trans e7; have y8 := (hb2.cell (p := ⟨w.heap.size, 8, none⟩) hlX).trans e8; have y9 := (hb2.cell (p := ⟨w.heap.size, 9, none⟩) hlX).trans e9; have y10 := (hb2.cell (p := ⟨w.heap.size, 10, none⟩) hlX).trans e10
        go_wp2_with fail
        refine hK.out _ _ (by exact ⟨y0, y1, y2, y3, y4, y5, y6, y7, y8, y9, y10⟩) (fun hHeld => ?_)
        clear hK K
        try simp only [Act.put, List.setIfInBounds_toArray, List.set_cons_zero, List.set_cons_succ, List.getElem_toArray, List.getElem_cons_zero, List.getElem_cons_succ]
        refine wpAnyH_take (i := 4) (v := ?valF4T3) rfl (by kernel_rfl) (by kernel_rfl) (by kernel_rfl) (fun _ _ _ h => h) (Or.inl ⟨by rfl, ?yieF4T3⟩) (by assumption) ?resF4T3
        case yieF4T3 =>
          intro w hSw
          try dsimp only at hSw
          try obtain ⟨s0, s1, s2, s3, s4, s5, s6, s7, s8, s9, s10⟩ := hSw
          go_simp
          try with_reducible rfl
        try simp only [Act.put, List.setIfInBounds_toArray, List.set_cons_zero, List.set_cons_succ, List.getElem_toArray, List.getElem_cons_zero, List.getElem_cons_succ]
        refine wpAnyH_take (i := 5) (v := ?valF5T3) rfl (by kernel_rfl) (by kernel_rfl) (by kernel_rfl) (fun _ _ _ h => h) (Or.inl ⟨by rfl, ?yieF5T3⟩) (by assumption) ?resF5T3
        case yieF5T3 =>
          intro w hSw
          try dsimp only at hSw
          try obtain ⟨s0, s1, s2, s3, s4, s5, s6, s7, s8, s9, s10⟩ := hSw
          go_simp
          try with_reducible rfl
        try simp only [Act.put, List.setIfInBounds_toArray, List.set_cons_zero, List.set_cons_succ, List.getElem_toArray, List.getElem_cons_zero, List.getElem_cons_succ]
        refine wpAnyH_take (i := 6) (v := undef) rfl (by kernel_rfl) (by kernel_rfl) (by kernel_rfl) (fun _ _ _ h => h) (Or.inr ⟨by rfl, rfl⟩) (by assumption) ?_
        try simp only [Act.put, List.setIfInBounds_toArray, List.set_cons_zero, List.set_cons_succ, List.getElem_toArray, List.getElem_cons_zero, List.getElem_cons_succ]
        refine wpAnyH_take (i := 7) (v := undef) rfl (by kernel_rfl) (by kernel_rfl) (by kernel_rfl) (fun _ _ _ h => h) (Or.inr ⟨by rfl, rfl⟩) (by assumption) ?_
        try simp only [Act.put, List.setIfInBounds_toArray, List.set_cons_zero, List.set_cons_succ, List.getElem_toArray, List.getElem_cons_zero, List.getElem_cons_succ]
        refine wpAnyH_take (i := 8) (v := undef) rfl (by kernel_rfl) (by kernel_rfl) (by kernel_rfl) (fun _ _ _ h => h) (Or.inr ⟨by rfl, rfl⟩) (by assumption) ?_
        try simp only [Act.put, List.setIfInBounds_toArray, List.set_cons_zero, List.set_cons_succ, List.getElem_toArray, List.getElem_cons_zero, List.getElem_cons_succ]
        refine wpAnyH_take (i := 9) (v := undef) rfl (by kernel_rfl) (by kernel_rfl) (by kernel_rfl) (fun _ _ _ h => h) (Or.inr ⟨by rfl, rfl⟩) (by assumption) ?_
        try simp only [Act.put, List.setIfInBounds_toArray, List.set_cons_zero, List.set_cons_succ, List.getElem_toArray, List.getElem_cons_zero, List.getElem_cons_succ]
        refine wpAnyH_take (i := 10) (v := ?valF10T3) rfl (by kernel_rfl) (by kernel_rfl) (by kernel_rfl) (fun _ _ _ h => h) (Or.inl ⟨by rfl, ?yieF10T3⟩) (by assumption) ?resF10T3
        case yieF10T3 =>
          intro w hSw
          try dsimp only at hSw
          try obtain ⟨s0, s1, s2, s3, s4, s5, s6, s7, s8, s9, s10⟩ := hSw
          go_simp
          try with_reducible rfl
        try simp only [Act.put, List.setIfInBounds_toArray, List.set_cons_zero, List.set_cons_succ, List.getElem_toArray, List.getElem_cons_zero, List.getElem_cons_succ]
        refine wpAnyH_done (by kernel_rfl) ?_ _
        refine NoPanic.normal ?_
        have g0 := (HLN.out.below (hbX.trans (hb2.mono hbX.size))).cell
        go_wp2_with fail
        go_quiet (fail)
        go_wp2_with fail
        go_ret2
        exact ⟨hbX.trans ((hb2.mono hbX.size).trans ((below_draws _).mono (Nat.le_trans hbX.size hb2.size))), .inr ⟨HN.out, rfl⟩⟩
      | true =>
        rw [hsm] at HDO
        have HSM := Lib.hid hsm
        simp only [hsm] at HSS
        clear hsm
        by_cases hsz : tx.size ≤ 116
        · have HN := Lib.hid (show doS s = some d by rw [HDO.out]; simp [hsz])
          have q116 : decide ((116 : Int) < (tx.size : Int)) = false := by simp; omega
          clear hsz
          go_wp2_with fail
          go_region_held3 (fun w' => w'.cell? ⟨w.heap.size, 0, none⟩ = some (.int .i64 s.kind) ∧ w'.cell? ⟨w.heap.size, 1, none⟩ = some (.string s.name) ∧ w'.cell? ⟨w.heap.size, 2, none⟩ = some (.string s.typ) ∧ w'.cell? ⟨w.heap.size, 3, none⟩ = some (.int .i64 s.e.kind) ∧ w'.cell? ⟨w.heap.size, 4, none⟩ = some (.int .i64 s.e.n) ∧ w'.cell? ⟨w.heap.size, 5, none⟩ = some (.string s.e.s) ∧ w'.cell? ⟨w.heap.size, 6, none⟩ = some (.slice A1 s.e.kids.length c1) ∧ w'.cell? ⟨w.heap.size, 7, none⟩ = some (.int .i64 s.t.kind) ∧ w'.cell? ⟨w.heap.size, 8, none⟩ = some (.int .i64 s.t.n) ∧ w'.cell? ⟨w.heap.size, 9, none⟩ = some (.string s.t.s) ∧ w'.cell? ⟨w.heap.size, 10, none⟩ = some (.slice A2 s.t.kids.length c2))
            (first | exact ⟨x0, x1, x2, x3, x4, x5, x6, x7, x8, x9, x10⟩ | exact ⟨y0, y1, y2, y3, y4, y5, y6, y7, y8, y9, y10⟩ | exact ⟨z0, z1, z2, z3, z4, z5, z6, z7, z8, z9, z10⟩ | exact ⟨(cell_drew0 _ _).trans e0, (cell_drew0 _ _).trans e1, (cell_drew0 _ _).trans e2, (cell_drew0 _ _).trans e3, (cell_drew0 _ _).trans e4, (cell_drew0 _ _).trans e5, (cell_drew0 _ _).trans e6, (cell_drew0 _ _).trans e7, (cell_drew0 _ _).trans e8, (cell_drew0 _ _).trans e9, (cell_drew0 _ _).trans e10⟩)
            (first | (refine (HST.out _).mono ?_; rintro r w1 ⟨X1, k1, X2, k2, mid, rfl, hk1, hk2, hO1, hO2, hmid, hb1'⟩; have hb1 : Below X.heap.size X w1 := (Below.refl _ X).drew.trans hb1'; have z0 := (hb1.cell (p := ⟨w.heap.size, 0, none⟩) hlX).trans e0; have z1 := (hb1.cell (p := ⟨w.heap.size, 1, none⟩) hlX).trans e1; have z2 := (hb1.cell (p := ⟨w.heap.size, 2, none⟩) hlX).trans e2; have z3 := (hb1.cell (p := ⟨w.heap.size, 3, none⟩) hlX).trans e3; have z4 := (hb1.cell (p := ⟨w.heap.size, 4, none⟩) hlX).trans e4; have z5 := (hb1.cell (p := ⟨w.heap.size, 5, none⟩) hlX).trans e5; have z6 := (hb1.cell (p := ⟨w.heap.size, 6, none⟩) hlX).trans e6; have z7 := (hb1.cell (p := ⟨w.heap.size, 7, none⟩) hlX).trans e7; have z8 := (hb1.cell (p := ⟨w.heap.size, 8, none⟩) hlX).trans e8; have z9 := (hb1.cell (p := ⟨w.heap.size, 9, none⟩) hlX).trans e9; have z10 := (hb1.cell (p := ⟨w.heap.size, 10, none⟩) hlX).trans e10; have KA := HOU.out w1 _ _ _ X1 hO1 hmid; have KB := HOU.out w1 _ _ _ X2 hO2 (Nat.le_refl _)) | (go_at_call 51; refine (HSS.out _ X1 X2 k1 k2 hb1 KA KB hk1 hk2).mono ?_; rintro r w2 ⟨rfl, hb2'⟩; have hb2 : Below X.heap.size X w2 := hb1.trans (hb2'.mono hb1.size); have y0 := (hb2.cell (p := ⟨w.heap.size, 0, none⟩) hlX).trans e0; have y1 := (hb2.cell (p := ⟨w.heap.size, 1, none⟩) hlX).trans e1; have y2 := (hb2.cell (p := ⟨w.heap.size, 2, none⟩) hlX).trans e2; have y3 := (hb2.cell (p := ⟨w.heap.size, 3, none⟩) hlX).trans e3; have y4 := (hb2.cell (p := ⟨w.heap.size, 4, none⟩) hlX).trans e4; have y5 := (hb2.cell (p := ⟨w.heap.size, 5, none⟩) hlX).trans e5; have y6 := (hb2.cell (p := ⟨w.heap.size, 6, none⟩) hlX).trans e6; have y7 := (hb2.cell (p := ⟨w.heap.size, 7, none⟩) hlX).trans e7; have y8 := (hb2.cell (p := ⟨w.heap.size, 8, none⟩) hlX).trans e8; have y9 := (hb2.cell (p := ⟨w.heap.size, 9, none⟩) hlX).trans e9; have y10 := (hb2.cell (p := ⟨w.heap.size, 10, none⟩) hlX).trans e10) | (go_at_call 52; refine (HDT.out _ hb2).mono ?_; rintro r w3 ⟨rfl, hb3'⟩; have hb3 : Below X.heap.size X w3 := hb2.trans (hb3'.mono hb2.size); have x0 := (hb3.cell (p := ⟨w.heap.size, 0, none⟩) hlX).trans e0; have x1 := (hb3.cell (p := ⟨w.heap.size, 1, none⟩) hlX).trans e1; have x2 := (hb3.cell (p := ⟨w.heap.size, 2, none⟩) hlX).trans e2; have x3 := (hb3.cell (p := ⟨w.heap.size, 3, none⟩) hlX).trans e3; have x4 := (hb3.cell (p := ⟨w.heap.size, 4, none⟩) hlX).trans e4; have x5 := (hb3.cell (p := ⟨w.heap.size, 5, none⟩) hlX).trans e5; have x6 := (hb3.cell (p := ⟨w.heap.size, 6, none⟩) hlX).trans e6; have x7 := (hb3.cell (p := ⟨w.heap.size, 7, none⟩) hlX).trans e7; have x8 := (hb3.cell (p := ⟨w.heap.size, 8, none⟩) hlX).trans e8; have x9 := (hb3.cell (p := ⟨w.heap.size, 9, none⟩) hlX).trans e9; have x10 := (hb3.cell (p := ⟨w.heap.size, 10, none⟩) hlX).trans e10))
          go_wp2_with fail
          go_ret2
          exact ⟨hbX.trans (hb3.mono hbX.size), .inl ⟨d, HN.out, by rw [HV.out]; rfl⟩⟩
        · have HN := Lib.hid (show doS s = none by rw [HDO.out]; simp [hsz])
          have q116 : decide ((116 : Int) < (tx.size : Int)) = true := by simp; omega
          clear hsz
          go_wp2_with fail
          go_region_held3 (fun w' => w'.cell? ⟨w.heap.size, 0, none⟩ = some (.int .i64 s.kind) ∧ w'.cell? ⟨w.heap.size, 1, none⟩ = some (.string s.name) ∧ w'.cell? ⟨w.heap.size, 2, none⟩ = some (.string s.typ) ∧ w'.cell? ⟨w.heap.size, 3, none⟩ = some (.int .i64 s.e.kind) ∧ w'.cell? ⟨w.heap.size, 4, none⟩ = some (.int .i64 s.e.n) ∧ w'.cell? ⟨w.heap.size, 5, none⟩ = some (.string s.e.s) ∧ w'.cell? ⟨w.heap.size, 6, none⟩ = some (.slice A1 s.e.kids.length c1) ∧ w'.cell? ⟨w.heap.size, 7, none⟩ = some (.int .i64 s.t.kind) ∧ w'.cell? ⟨w.heap.size, 8, none⟩ = some (.int .i64 s.t.n) ∧ w'.cell? ⟨w.heap.size, 9, none⟩ = some (.string s.t.s) ∧ w'.cell? ⟨w.heap.size, 10, none⟩ = some (.slice A2 s.t.kids.length c2))
            (first | exact ⟨x0, x1, x2, x3, x4, x5, x6, x7, x8, x9, x10⟩ | exact ⟨y0, y1, y2, y3, y4, y5, y6, y7, y8, y9, y10⟩ | exact ⟨z0, z1, z2, z3, z4, z5, z6, z7, z8, z9, z10⟩ | exact ⟨(cell_drew0 _ _).trans e0, (cell_drew0 _ _).trans e1, (cell_drew0 _ _).trans e2, (cell_drew0 _ _).trans e3, (cell_drew0 _ _).trans e4, (cell_drew0 _ _).trans e5, (cell_drew0 _ _).trans e6, (cell_drew0 _ _).trans e7, (cell_drew0 _ _).trans e8, (cell_drew0 _ _).trans e9, (cell_drew0 _ _).trans e10⟩)
            (first | (refine (HST.out _).mono ?_; rintro r w1 ⟨X1, k1, X2, k2, mid, rfl, hk1, hk2, hO1, hO2, hmid, hb1'⟩; have hb1 : Below X.heap.size X w1 := (Below.refl _ X).drew.trans hb1'; have z0 := (hb1.cell (p := ⟨w.heap.size, 0, none⟩) hlX).trans e0; have z1 := (hb1.cell (p := ⟨w.heap.size, 1, none⟩) hlX).trans e1; have z2 := (hb1.cell (p := ⟨w.heap.size, 2, none⟩) hlX).trans e2; have z3 := (hb1.cell (p := ⟨w.heap.size, 3, none⟩) hlX).trans e3; have z4 := (hb1.cell (p := ⟨w.heap.size, 4, none⟩) hlX).trans e4; have z5 := (hb1.cell (p := ⟨w.heap.size, 5, none⟩) hlX).trans e5; have z6 := (hb1.cell (p := ⟨w.heap.size, 6, none⟩) hlX).trans e6; have z7 := (hb1.cell (p := ⟨w.heap.size, 7, none⟩) hlX).trans e7; have z8 := (hb1.cell (p := ⟨w.heap.size, 8, none⟩) hlX).trans e8; have z9 := (hb1.cell (p := ⟨w.heap.size, 9, none⟩) hlX).trans e9; have z10 := (hb1.cell (p := ⟨w.heap.size, 10, none⟩) hlX).trans e10; have KA := HOU.out w1 _ _ _ X1 hO1 hmid; have KB := HOU.out w1 _ _ _ X2 hO2 (Nat.le_refl _)) | (go_at_call 51; refine (HSS.out _ X1 X2 k1 k2 hb1 KA KB hk1 hk2).mono ?_; rintro r w2 ⟨rfl, hb2'⟩; have hb2 : Below X.heap.size X w2 := hb1.trans (hb2'.mono hb1.size); have y0 := (hb2.cell (p := ⟨w.heap.size, 0, none⟩) hlX).trans e0; have y1 := (hb2.cell (p := ⟨w.heap.size, 1, none⟩) hlX).trans e1; have y2 := (hb2.cell (p := ⟨w.heap.size, 2, none⟩) hlX).trans e2; have y3 := (hb2.cell (p := ⟨w.heap.size, 3, none⟩) hlX).trans e3; have y4 := (hb2.cell (p := ⟨w.heap.size, 4, none⟩) hlX).trans e4; have y5 := (hb2.cell (p := ⟨w.heap.size, 5, none⟩) hlX).trans e5; have y6 := (hb2.cell (p := ⟨w.heap.size, 6, none⟩) hlX).trans e6; have y7 := (hb2.cell (p := ⟨w.heap.size, 7, none⟩) hlX).trans e7; have y8 := (hb2.cell (p := ⟨w.heap.size, 8, none⟩) hlX).trans e8; have y9 := (hb2.cell (p := ⟨w.heap.size, 9, none⟩) hlX).trans e9; have y10 := (hb2.cell (p := ⟨w.heap.size, 10, none⟩) hlX).trans e10) | (go_at_call 52; refine (HDT.out _ hb2).mono ?_; rintro r w3 ⟨rfl, hb3'⟩; have hb3 : Below X.heap.size X w3 := hb2.trans (hb3'.mono hb2.size); have x0 := (hb3.cell (p := ⟨w.heap.size, 0, none⟩) hlX).trans e0; have x1 := (hb3.cell (p := ⟨w.heap.size, 1, none⟩) hlX).trans e1; have x2 := (hb3.cell (p := ⟨w.heap.size, 2, none⟩) hlX).trans e2; have x3 := (hb3.cell (p := ⟨w.heap.size, 3, none⟩) hlX).trans e3; have x4 := (hb3.cell (p := ⟨w.heap.size, 4, none⟩) hlX).trans e4; have x5 := (hb3.cell (p := ⟨w.heap.size, 5, none⟩) hlX).trans e5; have x6 := (hb3.cell (p := ⟨w.heap.size, 6, none⟩) hlX).trans e6; have x7 := (hb3.cell (p := ⟨w.heap.size, 7, none⟩) hlX).trans e7; have x8 := (hb3.cell (p := ⟨w.heap.size, 8, none⟩) hlX).trans e8; have x9 := (hb3.cell (p := ⟨w.heap.size, 9, none⟩) hlX).trans e9; have x10 := (hb3.cell (p := ⟨w.heap.size, 10, none⟩) hlX).trans e10))
          have g0 := (HLN.out.below (hbX.trans (hb3.mono hbX.size))).cell
          go_wp2_with fail
          go_quiet (fail)
          go_wp2_with fail
          go_ret2
          exact ⟨hbX.trans ((hb3.mono hbX.size).trans ((below_draws _).mono (Nat.le_trans hbX.size hb3.size))), .inr ⟨HN.out, rfl⟩⟩
  have q2 : (s.kind == 2) = false := by rw [beq_eq_false_iff_ne]; exact hk2
  by_cases hk3 : s.kind = 3
  · have q3 : (s.kind == 3) = true := by rw [beq_iff_eq]; exact hk3
    have HD1 := Lib.hid (show deS s = (okP s.e).bind (fun p => (okP s.t).map (fun q => .whenD p q)) by unfold deS; rw [if_neg hk0, if_neg hk1, if_neg hk2, if_pos hk3])
    clear hk0 hk1 hk2 hk3
    cases hok : okE s.e with
    | false =>
      have HN := Lib.hid (show doS s = none by unfold doS; rw [HD1.out, ok_none hok]; rfl)
      have g0 := (HLN.out.below hbX).cell
      clear hok
      go_wp2_with fail
      go_quiet (fail)
      go_wp2_with fail
      go_ret2
      exact ⟨hbX.trans ((below_draws _).mono hbX.size), .inr ⟨HN.out, rfl⟩⟩
    | true =>
      obtain ⟨p, hp⟩ := ok_some hok
      obtain rfl := HV1.out p hp
      cases hok2 : okE s.t with
      | false =>
        have HN := Lib.hid (show doS s = none by unfold doS; rw [HD1.out, hp, ok_none hok2]; rfl)
        have g0 := (HLN.out.below hbX).cell
        clear hok hok2 hp
        go_wp2_with fail
        go_quiet (fail)
        go_wp2_with fail
        go_ret2
        exact ⟨hbX.trans ((below_draws _).mono hbX.size), .inr ⟨HN.out, rfl⟩⟩
      | true =>
        obtain ⟨q, hq⟩ := ok_some hok2
        obtain rfl := HV2.out q hq
        obtain ⟨d, hd⟩ : ∃ d, d = De.whenD p q := ⟨_, rfl⟩
        have hdf : d.fine = true := by rw [hd]; simp [De.fine, (okP_some hp).2, (okP_some hq).2]
        have HDS := Lib.hid (show deS s = some d by rw [HD1.out, hp, hd]; simp [hq])
        have HVD := Lib.hid (show Value.iface 80 (.agg #[partV p, partV q]) = .iface (deT d) (deU d) by rw [hd]; rfl)
        obtain ⟨tp, up, hpv⟩ := partV_if' p
        obtain ⟨tq, uq, hqv⟩ := partV_if' q
        rw [hpv, hqv] at HVD ⊢
        clear hd hok hp hok2 hq HD1 hpv hqv
        go_wp2_with fail
        rw [HVD.out]
        have HST := Lib.hid (fun V => stmt_any d V)
        have HDT := Lib.hid (fun (V : World) (hV : Below X.heap.size X V) => deedText_any d hdf V (HL.out.below (hbX.trans (hV.mono hbX.size))))
        have HSS := Lib.hid (fun (V : World) (X1 X2 : Option Addr) (k1 k2 : Nat) (hV : Below X.heap.size X V) (h1 : KidsU V V.heap.size X1 d.st.e.kids) (h2 : KidsU V V.heap.size X2 d.st.t.kids) (h3 : d.st.e.kids.length ≤ k1) (h4 : d.st.t.kids.length ≤ k2) =>
          stmtSame_any d.st s X1 X2 A1 A2 k1 k2 c1 c2 V.heap.size V h1 h2 ((HA1.out.keep ((hbX.trans (hV.mono hbX.size)).mono hB)).wide (Nat.le_trans hB (Nat.le_trans hbX.size hV.size))) ((HA2.out.keep ((hbX.trans (hV.mono hbX.size)).mono hB)).wide (Nat.le_trans hB (Nat.le_trans hbX.size hV.size))) h3 h4 hc1 hc2 (Nat.le_refl _) (st_small hdf))
        have HOU := Lib.hid (fun (V : World) (lo hi : Nat) (x : Ex) (A : Option Addr) (h : OwnE V x lo hi A) (hh : hi ≤ V.heap.size) => own_kidsU x lo hi A V.heap.size h hh)
        obtain ⟨m1, n1, j1⟩ := meth_stmt d
        have HDO := Lib.hid (show doS s = if sameS d.st s = true ∧ d.text.size ≤ 116 then some d else none by unfold doS; rw [HDS.out]; rfl)
        have htx : d.text.size ≤ 2 ^ 40 := text_small hdf
        unfold deV at HDT
        unfold GivesSt stV at HST
        have HV := Lib.hid (show deV d = .iface (deT d) (deU d) from rfl)
        generalize d.text = tx at *
        generalize d.st = ds at *
        generalize deT d = t1 at *
        generalize deU d = u1 at *
        generalize fStmt d = f1 at *
        clear hdf
        cases hsm : sameS ds s with
        | false =>
          rw [hsm] at HDO
          have HN := Lib.hid (show doS s = none by rw [HDO.out]; simp)
          have HSM := Lib.hid hsm
          simp only [hsm] at HSS
          clear hsm
          go_wp2_with fail
          refine wp_region_noPanic ?_
          refine wp_region_held_drew (S := (fun w' => w'.cell? ⟨w.heap.size, 0, none⟩ = some (.int .i64 s.kind) ∧ w'.cell? ⟨w.heap.size, 1, none⟩ = some (.string s.name) ∧ w'.cell? ⟨w.heap.size, 2, none⟩ = some (.string s.typ) ∧ w'.cell? ⟨w.heap.size, 3, none⟩ = some (.int .i64 s.e.kind) ∧ w'.cell? ⟨w.heap.size, 4, none⟩ = some (.int .i64 s.e.n) ∧ w'.cell? ⟨w.heap.size, 5, none⟩ = some (.string s.e.s) ∧ w'.cell? ⟨w.heap.size, 6, none⟩ = some (.slice A1 s.e.kids.length c1) ∧ w'.cell? ⟨w.heap.size, 7, none⟩ = some (.int .i64 s.t.kind) ∧ w'.cell? ⟨w.heap.size, 8, none⟩ = some (.int .i64 s.t.n) ∧ w'.cell? ⟨w.heap.size, 9, none⟩ = some (.string s.t.s) ∧ w'.cell? ⟨w.heap.size, 10, none⟩ = some (.slice A2 s.t.kids.length c2))) (by kernel_rfl) (by exact ⟨e0, e1, e2, e3, e4, e5, e6, e7, e8, e9, e10⟩) (fun hHeld => ?_)
          refine wpAnyH_take (i := 0) (v := ?valF0T4) rfl (by kernel_rfl) (by kernel_rfl) (by kernel_rfl) (fun _ _ _ h => h) (Or.inl ⟨by rfl, ?yieF0T4⟩) (by assumption) ?resF0T4
          case yieF0T4 =>
            intro w hSw
            try dsimp only at hSw
            try obtain ⟨s0, s1, s2, s3, s4, s5, s6, s7, s8, s9, s10⟩ := hSw
            go_simp
            try with_reducible rfl
          try simp only [Act.put, List.setIfInBounds_toArray, List.set_cons_zero, List.set_cons_succ, List.getElem_toArray, List.getElem_cons_zero, List.getElem_cons_succ]
          refine wpAnyH_take (i := 2) (v := ?valF2T4) rfl (by kernel_rfl) (by kernel_rfl) (by kernel_rfl) (fun _ _ _ h => h) (Or.inl ⟨by rfl, ?yieF2T4⟩) (by assumption) ?resF2T4
          case yieF2T4 =>
            intro w hSw
            try dsimp only at hSw
            try obtain ⟨s0, s1, s2, s3, s4, s5, s6, s7, s8, s9, s10⟩ := hSw
            go_simp
            try with_reducible rfl
          try simp only [Act.put, List.setIfInBounds_toArray, List.set_cons_zero, List.set_cons_succ, List.getElem_toArray, List.getElem_cons_zero, List.getElem_cons_succ]
          refine wpAnyH_ready (rs := [1]) (by kernel_rfl) (by simp) ?_
          refine AllReadyH.cons rfl (fun K hK => ?_) AllReadyH.nil
          go_simp
          refine (HST.out _).mono ?_
          rintro r w1 ⟨X1, k1, X2, k2, mid, rfl, hk1, hk2, hO1, hO2, hmid, hb1'⟩; have hb1 : Below X.heap.size X w1 := (Below.refl _ X).drew.trans hb1'; have z0 := (hb1.cell (p := ⟨w.heap.size, 0, none⟩) hlX).trans e0; have z1 := (hb1.cell (p := ⟨w.heap.size, 1, none⟩) hlX).trans e1; have z2 := (hb1.cell (p := ⟨w.heap.size, 2, none⟩) hlX).trans e2; have z3 := (hb1.cell (p := ⟨w.heap.size, 3, none⟩) hlX).trans e3; have z4 := (hb1.cell (p := ⟨w.heap.size, 4, none⟩) hlX).trans e4; have z5 := (hb1.cell (p := ⟨w.heap.size, 5, none⟩) hlX).trans e5; have z6 := (hb1.cell (p := ⟨w.heap.size, 6, none⟩) hlX).trans e6; have z7 := (hb1.cell (p := ⟨w.heap.size, 7, none⟩) hlX).trans e7; have z8 := (hb1.cell (p := ⟨w.heap.size, 8, none⟩) hlX).trans e8; have z9 := (hb1.cell (p := ⟨w.heap.size, 9, none⟩) hlX).trans e9; have z10 := (hb1.cell (p := ⟨w.heap.size, 10, none⟩) hlX).trans e10; have KA := HOU.out w1 _ _ _ X1 hO1 hmid; have KB := HOU.out w1 _ _ _ X2 hO2 (Nat.le_refl _)
          go_wp2_with fail
          refine hK.out _ _ (by exact ⟨z0, z1, z2, z3, z4, z5, z6, z7, z8, z9, z10⟩) (fun hHeld => ?_)
          clear hK K
          try simp only [Act.put, List.setIfInBounds_toArray, List.set_cons_zero, List.set_cons_succ, List.getElem_toArray, List.getElem_cons_zero, List.getElem_cons_succ]
          refine wpAnyH_ready (rs := [3]) (by kernel_rfl) (by simp) ?_
          refine AllReadyH.cons rfl (fun K hK => ?_) AllReadyH.nil
          go_simp
          refine (HSS.out _ X1 X2 k1 k2 hb1 KA KB hk1 hk2).mono ?_
          rintro r w2 ⟨rfl, hb2'⟩; have hb2 : Below X.heap.size X w2 := hb1.trans (hb2'.mono hb1.size); have y0 := (hb2.cell (p := ⟨w.heap.size, 0, none⟩) hlX).trans e0; have y1 := (hb2.cell (p := ⟨w.heap.size, 1, none⟩) hlX).trans e1; have y2 := (hb2.cell (p := ⟨w.heap.size, 2, none⟩) hlX).trans e2; have y3 := (hb2.cell (p := ⟨w.heap.size, 3, none⟩) hlX).trans e3; have y4 := (hb2.cell (p := ⟨w.heap.size, 4, none⟩) hlX).trans e4; have y5 := (hb2.cell (p := ⟨w.heap.size, 5, none⟩) hlX).trans e5; have y6 := (hb2.cell (p := ⟨w.heap.size, 6, none⟩) hlX).trans e6; have y7 := (hb2.cell (p := ⟨w.heap.size, 7, none⟩) hlX).trans e7; have y8 := (hb2.cell (p := ⟨w.heap.size, 8, none⟩) hlX).trans e8; have y9 := (hb2.cell (p := ⟨w.heap.size, 9, none⟩) hlX).trans e9; have y10 := (hb2.cell (p := ⟨w.heap.size, 10, none⟩) hlX).trans e10
          go_wp2_with fail
          refine hK.out _ _ (by exact ⟨y0, y1, y2, y3, y4, y5, y6, y7, y8, y9, y10⟩) (fun hHeld => ?_)
          clear hK K
          try simp only [Act.put, List.setIfInBounds_toArray, List.set_cons_zero, List.set_cons_succ, List.getElem_toArray, List.getElem_cons_zero, List.getElem_cons_succ]
          refine wpAnyH_take (i := 4) (v := ?valF4T4) rfl (by kernel_rfl) (by kernel_rfl) (by kernel_rfl) (fun _ _ _ h => h) (Or.inl ⟨by rfl, ?yieF4T4⟩) (by assumption) ?resF4T4
          case yieF4T4 =>
            intro w hSw
            try dsimp only at hSw
            try obtain ⟨s0, s1, s2, s3, s4, s5, s6, s7, s8, s9, s10⟩ := hSw
            go_simp
            try with_reducible rfl
          try simp only [Act.put, List.setIfInBounds_toArray, List.set_cons_zero, List.set_cons_succ, List.getElem_toArray, List.getElem_cons_zero, List.getElem_cons_succ]
          refine wpAnyH_take (i := 5) (v := ?valF5T4) rfl (by kernel_rfl) (by kernel_rfl) (by kernel_rfl) (fun _ _ _ h => h) (Or.inl ⟨by rfl, ?yieF5T4⟩) (by assumption) ?resF5T4
          case yieF5T4 =>
            intro w hSw
            try dsimp only at hSw
            try obtain ⟨s0, s1, s2, s3, s4, s5, s6, s7, s8, s9, s10⟩ := hSw
            go_simp
            try with_reducible rfl
          try simp only [Act.put, List.setIfInBounds_toArray, List.set_cons_zero, List.set_cons_succ, List.getElem_toArray, List.getElem_cons_zero, List.getElem_cons_succ]
          refine wpAnyH_take (i := 6) (v := undef) rfl (by kernel_rfl) (by kernel_rfl) (by kernel_rfl) (fun _ _ _ h => h) (Or.inr ⟨by rfl, rfl⟩) (by assumption) ?_
          try simp only [Act.put, List.setIfInBounds_toArray, List.set_cons_zero, List.set_cons_succ, List.getElem_toArray, List.getElem_cons_zero, List.getElem_cons_succ]
          refine wpAnyH_take (i := 7) (v := undef) rfl (by kernel_rfl) (by kernel_rfl) (by kernel_rfl) (fun _ _ _ h => h) (Or.inr ⟨by rfl, rfl⟩) (by assumption) ?_
          try simp only [Act.put, List.setIfInBounds_toArray, List.set_cons_zero, List.set_cons_succ, List.getElem_toArray, List.getElem_cons_zero, List.getElem_cons_succ]
          refine wpAnyH_take (i := 8) (v := undef) rfl (by kernel_rfl) (by kernel_rfl) (by kernel_rfl) (fun _ _ _ h => h) (Or.inr ⟨by rfl, rfl⟩) (by assumption) ?_
          try simp only [Act.put, List.setIfInBounds_toArray, List.set_cons_zero, List.set_cons_succ, List.getElem_toArray, List.getElem_cons_zero, List.getElem_cons_succ]
          refine wpAnyH_take (i := 9) (v := undef) rfl (by kernel_rfl) (by kernel_rfl) (by kernel_rfl) (fun _ _ _ h => h) (Or.inr ⟨by rfl, rfl⟩) (by assumption) ?_
          try simp only [Act.put, List.setIfInBounds_toArray, List.set_cons_zero, List.set_cons_succ, List.getElem_toArray, List.getElem_cons_zero, List.getElem_cons_succ]
          refine wpAnyH_take (i := 10) (v := ?valF10T4) rfl (by kernel_rfl) (by kernel_rfl) (by kernel_rfl) (fun _ _ _ h => h) (Or.inl ⟨by rfl, ?yieF10T4⟩) (by assumption) ?resF10T4
          case yieF10T4 =>
            intro w hSw
            try dsimp only at hSw
            try obtain ⟨s0, s1, s2, s3, s4, s5, s6, s7, s8, s9, s10⟩ := hSw
            go_simp
            try with_reducible rfl
          try simp only [Act.put, List.setIfInBounds_toArray, List.set_cons_zero, List.set_cons_succ, List.getElem_toArray, List.getElem_cons_zero, List.getElem_cons_succ]
          refine wpAnyH_done (by kernel_rfl) ?_ _
          refine NoPanic.normal ?_
          have g0 := (HLN.out.below (hbX.trans (hb2.mono hbX.size))).cell
          go_wp2_with fail
          go_quiet (fail)
          go_wp2_with fail
          go_ret2
          exact ⟨hbX.trans ((hb2.mono hbX.size).trans ((below_draws _).mono (Nat.le_trans hbX.size hb2.size))), .inr ⟨HN.out, rfl⟩⟩
        | true =>
          rw [hsm] at HDO
          have HSM := Lib.hid hsm
          simp only [hsm] at HSS
          clear hsm
          by_cases hsz : tx.size ≤ 116
          · have HN := Lib.hid (show doS s = some d by rw [HDO.out]; simp [hsz])
            have q116 : decide ((116 : Int) < (tx.size : Int)) = false := by simp; omega
            clear hsz
            go_wp2_with fail
            go_region_held3 (fun w' => w'.cell? ⟨w.heap.size, 0, none⟩ = some (.int .i64 s.kind) ∧ w'.cell? ⟨w.heap.size, 1, none⟩ = some (.string s.name) ∧ w'.cell? ⟨w.heap.size, 2, none⟩ = some (.string s.typ) ∧ w'.cell? ⟨w.heap.size, 3, none⟩ = some (.int .i64 s.e.kind) ∧ w'.cell? ⟨w.heap.size, 4, none⟩ = some (.int .i64 s.e.n) ∧ w'.cell? ⟨w.heap.size, 5, none⟩ = some (.string s.e.s) ∧ w'.cell? ⟨w.heap.size, 6, none⟩ = some (.slice A1 s.e.kids.length c1) ∧ w'.cell? ⟨w.heap.size, 7, none⟩ = some (.int .i64 s.t.kind) ∧ w'.cell? ⟨w.heap.size, 8, none⟩ = some (.int .i64 s.t.n) ∧ w'.cell? ⟨w.heap.size, 9, none⟩ = some (.string s.t.s) ∧ w'.cell? ⟨w.heap.size, 10, none⟩ = some (.slice A2 s.t.kids.length c2))
              (first | exact ⟨x0, x1, x2, x3, x4, x5, x6, x7, x8, x9, x10⟩ | exact ⟨y0, y1, y2, y3, y4, y5, y6, y7, y8, y9, y10⟩ | exact ⟨z0, z1, z2, z3, z4, z5, z6, z7, z8, z9, z10⟩ | exact ⟨(cell_drew0 _ _).trans e0, (cell_drew0 _ _).trans e1, (cell_drew0 _ _).trans e2, (cell_drew0 _ _).trans e3, (cell_drew0 _ _).trans e4, (cell_drew0 _ _).trans e5, (cell_drew0 _ _).trans e6, (cell_drew0 _ _).trans e7, (cell_drew0 _ _).trans e8, (cell_drew0 _ _).trans e9, (cell_drew0 _ _).trans e10⟩)
              (first | (refine (HST.out _).mono ?_; rintro r w1 ⟨X1, k1, X2, k2, mid, rfl, hk1, hk2, hO1, hO2, hmid, hb1'⟩; have hb1 : Below X.heap.size X w1 := (Below.refl _ X).drew.trans hb1'; have z0 := (hb1.cell (p := ⟨w.heap.size, 0, none⟩) hlX).trans e0; have z1 := (hb1.cell (p := ⟨w.heap.size, 1, none⟩) hlX).trans e1; have z2 := (hb1.cell (p := ⟨w.heap.size, 2, none⟩) hlX).trans e2; have z3 := (hb1.cell (p := ⟨w.heap.size, 3, none⟩) hlX).trans e3; have z4 := (hb1.cell (p := ⟨w.heap.size, 4, none⟩) hlX).trans e4; have z5 := (hb1.cell (p := ⟨w.heap.size, 5, none⟩) hlX).trans e5; have z6 := (hb1.cell (p := ⟨w.heap.size, 6, none⟩) hlX).trans e6; have z7 := (hb1.cell (p := ⟨w.heap.size, 7, none⟩) hlX).trans e7; have z8 := (hb1.cell (p := ⟨w.heap.size, 8, none⟩) hlX).trans e8; have z9 := (hb1.cell (p := ⟨w.heap.size, 9, none⟩) hlX).trans e9; have z10 := (hb1.cell (p := ⟨w.heap.size, 10, none⟩) hlX).trans e10; have KA := HOU.out w1 _ _ _ X1 hO1 hmid; have KB := HOU.out w1 _ _ _ X2 hO2 (Nat.le_refl _)) | (go_at_call 51; refine (HSS.out _ X1 X2 k1 k2 hb1 KA KB hk1 hk2).mono ?_; rintro r w2 ⟨rfl, hb2'⟩; have hb2 : Below X.heap.size X w2 := hb1.trans (hb2'.mono hb1.size); have y0 := (hb2.cell (p := ⟨w.heap.size, 0, none⟩) hlX).trans e0; have y1 := (hb2.cell (p := ⟨w.heap.size, 1, none⟩) hlX).trans e1; have y2 := (hb2.cell (p := ⟨w.heap.size, 2, none⟩) hlX).trans e2; have y3 := (hb2.cell (p := ⟨w.heap.size, 3, none⟩) hlX).trans e3; have y4 := (hb2.cell (p := ⟨w.heap.size, 4, none⟩) hlX).trans e4; have y5 := (hb2.cell (p := ⟨w.heap.size, 5, none⟩) hlX).trans e5; have y6 := (hb2.cell (p := ⟨w.heap.size, 6, none⟩) hlX).trans e6; have y7 := (hb2.cell (p := ⟨w.heap.size, 7, none⟩) hlX).trans e7; have y8 := (hb2.cell (p := ⟨w.heap.size, 8, none⟩) hlX).trans e8; have y9 := (hb2.cell (p := ⟨w.heap.size, 9, none⟩) hlX).trans e9; have y10 := (hb2.cell (p := ⟨w.heap.size, 10, none⟩) hlX).trans e10) | (go_at_call 52; refine (HDT.out _ hb2).mono ?_; rintro r w3 ⟨rfl, hb3'⟩; have hb3 : Below X.heap.size X w3 := hb2.trans (hb3'.mono hb2.size); have x0 := (hb3.cell (p := ⟨w.heap.size, 0, none⟩) hlX).trans e0; have x1 := (hb3.cell (p := ⟨w.heap.size, 1, none⟩) hlX).trans e1; have x2 := (hb3.cell (p := ⟨w.heap.size, 2, none⟩) hlX).trans e2; have x3 := (hb3.cell (p := ⟨w.heap.size, 3, none⟩) hlX).trans e3; have x4 := (hb3.cell (p := ⟨w.heap.size, 4, none⟩) hlX).trans e4; have x5 := (hb3.cell (p := ⟨w.heap.size, 5, none⟩) hlX).trans e5; have x6 := (hb3.cell (p := ⟨w.heap.size, 6, none⟩) hlX).trans e6; have x7 := (hb3.cell (p := ⟨w.heap.size, 7, none⟩) hlX).trans e7; have x8 := (hb3.cell (p := ⟨w.heap.size, 8, none⟩) hlX).trans e8; have x9 := (hb3.cell (p := ⟨w.heap.size, 9, none⟩) hlX).trans e9; have x10 := (hb3.cell (p := ⟨w.heap.size, 10, none⟩) hlX).trans e10))
            go_wp2_with fail
            go_ret2
            exact ⟨hbX.trans (hb3.mono hbX.size), .inl ⟨d, HN.out, by rw [HV.out]; rfl⟩⟩
          · have HN := Lib.hid (show doS s = none by rw [HDO.out]; simp [hsz])
            have q116 : decide ((116 : Int) < (tx.size : Int)) = true := by simp; omega
            clear hsz
            go_wp2_with fail
            go_region_held3 (fun w' => w'.cell? ⟨w.heap.size, 0, none⟩ = some (.int .i64 s.kind) ∧ w'.cell? ⟨w.heap.size, 1, none⟩ = some (.string s.name) ∧ w'.cell? ⟨w.heap.size, 2, none⟩ = some (.string s.typ) ∧ w'.cell? ⟨w.heap.size, 3, none⟩ = some (.int .i64 s.e.kind) ∧ w'.cell? ⟨w.heap.size, 4, none⟩ = some (.int .i64 s.e.n) ∧ w'.cell? ⟨w.heap.size, 5, none⟩ = some (.string s.e.s) ∧ w'.cell? ⟨w.heap.size, 6, none⟩ = some (.slice A1 s.e.kids.length c1) ∧ w'.cell? ⟨w.heap.size, 7, none⟩ = some (.int .i64 s.t.kind) ∧ w'.cell? ⟨w.heap.size, 8, none⟩ = some (.int .i64 s.t.n) ∧ w'.cell? ⟨w.heap.size, 9, none⟩ = some (.string s.t.s) ∧ w'.cell? ⟨w.heap.size, 10, none⟩ = some (.slice A2 s.t.kids.length c2))
              (first | exact ⟨x0, x1, x2, x3, x4, x5, x6, x7, x8, x9, x10⟩ | exact ⟨y0, y1, y2, y3, y4, y5, y6, y7, y8, y9, y10⟩ | exact ⟨z0, z1, z2, z3, z4, z5, z6, z7, z8, z9, z10⟩ | exact ⟨(cell_drew0 _ _).trans e0, (cell_drew0 _ _).trans e1, (cell_drew0 _ _).trans e2, (cell_drew0 _ _).trans e3, (cell_drew0 _ _).trans e4, (cell_drew0 _ _).trans e5, (cell_drew0 _ _).trans e6, (cell_drew0 _ _).trans e7, (cell_drew0 _ _).trans e8, (cell_drew0 _ _).trans e9, (cell_drew0 _ _).trans e10⟩)
              (first | (refine (HST.out _).mono ?_; rintro r w1 ⟨X1, k1, X2, k2, mid, rfl, hk1, hk2, hO1, hO2, hmid, hb1'⟩; have hb1 : Below X.heap.size X w1 := (Below.refl _ X).drew.trans hb1'; have z0 := (hb1.cell (p := ⟨w.heap.size, 0, none⟩) hlX).trans e0; have z1 := (hb1.cell (p := ⟨w.heap.size, 1, none⟩) hlX).trans e1; have z2 := (hb1.cell (p := ⟨w.heap.size, 2, none⟩) hlX).trans e2; have z3 := (hb1.cell (p := ⟨w.heap.size, 3, none⟩) hlX).trans e3; have z4 := (hb1.cell (p := ⟨w.heap.size, 4, none⟩) hlX).trans e4; have z5 := (hb1.cell (p := ⟨w.heap.size, 5, none⟩) hlX).trans e5; have z6 := (hb1.cell (p := ⟨w.heap.size, 6, none⟩) hlX).trans e6; have z7 := (hb1.cell (p := ⟨w.heap.size, 7, none⟩) hlX).trans e7; have z8 := (hb1.cell (p := ⟨w.heap.size, 8, none⟩) hlX).trans e8; have z9 := (hb1.cell (p := ⟨w.heap.size, 9, none⟩) hlX).trans e9; have z10 := (hb1.cell (p := ⟨w.heap.size, 10, none⟩) hlX).trans e10; have KA := HOU.out w1 _ _ _ X1 hO1 hmid; have KB := HOU.out w1 _ _ _ X2 hO2 (Nat.le_refl _)) | (go_at_call 51; refine (HSS.out _ X1 X2 k1 k2 hb1 KA KB hk1 hk2).mono ?_; rintro r w2 ⟨rfl, hb2'⟩; have hb2 : Below X.heap.size X w2 := hb1.trans (hb2'.mono hb1.size); have y0 := (hb2.cell (p := ⟨w.heap.size, 0, none⟩) hlX).trans e0; have y1 := (hb2.cell (p := ⟨w.heap.size, 1, none⟩) hlX).trans e1; have y2 := (hb2.cell (p := ⟨w.heap.size, 2, none⟩) hlX).trans e2; have y3 := (hb2.cell (p := ⟨w.heap.size, 3, none⟩) hlX).trans e3; have y4 := (hb2.cell (p := ⟨w.heap.size, 4, none⟩) hlX).trans e4; have y5 := (hb2.cell (p := ⟨w.heap.size, 5, none⟩) hlX).trans e5; have y6 := (hb2.cell (p := ⟨w.heap.size, 6, none⟩) hlX).trans e6; have y7 := (hb2.cell (p := ⟨w.heap.size, 7, none⟩) hlX).trans e7; have y8 := (hb2.cell (p := ⟨w.heap.size, 8, none⟩) hlX).trans e8; have y9 := (hb2.cell (p := ⟨w.heap.size, 9, none⟩) hlX).trans e9; have y10 := (hb2.cell (p := ⟨w.heap.size, 10, none⟩) hlX).trans e10) | (go_at_call 52; refine (HDT.out _ hb2).mono ?_; rintro r w3 ⟨rfl, hb3'⟩; have hb3 : Below X.heap.size X w3 := hb2.trans (hb3'.mono hb2.size); have x0 := (hb3.cell (p := ⟨w.heap.size, 0, none⟩) hlX).trans e0; have x1 := (hb3.cell (p := ⟨w.heap.size, 1, none⟩) hlX).trans e1; have x2 := (hb3.cell (p := ⟨w.heap.size, 2, none⟩) hlX).trans e2; have x3 := (hb3.cell (p := ⟨w.heap.size, 3, none⟩) hlX).trans e3; have x4 := (hb3.cell (p := ⟨w.heap.size, 4, none⟩) hlX).trans e4; have x5 := (hb3.cell (p := ⟨w.heap.size, 5, none⟩) hlX).trans e5; have x6 := (hb3.cell (p := ⟨w.heap.size, 6, none⟩) hlX).trans e6; have x7 := (hb3.cell (p := ⟨w.heap.size, 7, none⟩) hlX).trans e7; have x8 := (hb3.cell (p := ⟨w.heap.size, 8, none⟩) hlX).trans e8; have x9 := (hb3.cell (p := ⟨w.heap.size, 9, none⟩) hlX).trans e9; have x10 := (hb3.cell (p := ⟨w.heap.size, 10, none⟩) hlX).trans e10))
            have g0 := (HLN.out.below (hbX.trans (hb3.mono hbX.size))).cell
            go_wp2_with fail
            go_quiet (fail)
            go_wp2_with fail
            go_ret2
            exact ⟨hbX.trans ((hb3.mono hbX.size).trans ((below_draws _).mono (Nat.le_trans hbX.size hb3.size))), .inr ⟨HN.out, rfl⟩⟩
  have q3 : (s.kind == 3) = false := by rw [beq_eq_false_iff_ne]; exact hk3
  have HN := Lib.hid (show doS s = none by unfold doS deS; rw [if_neg hk0, if_neg hk1, if_neg hk2, if_neg hk3]; rfl)
  have g0 := (HLN.out.below hbX).cell
  clear hk0 hk1 hk2 hk3
  go_wp2_with fail
  go_quiet (fail)
  go_wp2_with fail
  go_ret2
  exact ⟨hbX.trans ((below_draws _).mono hbX.size), .inr ⟨HN.out, rfl⟩⟩
end Go.Proofs.YtabignplhkbcpaaGreatDoor
