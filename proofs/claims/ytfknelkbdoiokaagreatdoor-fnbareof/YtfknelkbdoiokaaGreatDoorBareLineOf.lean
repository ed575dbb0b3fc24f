/-
  The contract of the program's bareLineOf.
-/
import Derived.Test.YtfknelkbdoiokaaGreatDoorBareWrite
import Derived.Test.YtfknelkbdoiokaaGreatDoorBareSame
import Derived.Test.YtfknelkbdoiokaaGreatDoorBarePart
namespace Go.Proofs.YtfknelkbdoiokaaGreatDoor
open Go.RowKit

/-- The line of what is ok, and whether it is. -/
def BareR (x : Option Ba) (w : World) (r : Ending) (w' : World) : Prop :=
  Below w.heap.size w w' ∧ ((∃ d, x = some d ∧ r = .returned (.tuple #[baV d, .bool true])) ∨ (x = none ∧ ∃ v, r = .returned (.tuple #[v, .bool false])))
theorem ptq_small (p : Pt) : p.fine = true → p.ex.wt ≤ 9 * p.nodes := by
  induction p with
  | num n => intro _; simp only [Pt.ex, Ex.wt, Ex.wts, Pt.nodes]; have : ByteArray.empty.size = 0 := rfl; omega
  | name s => intro h; have := name_size8 h; simp only [Pt.ex, Ex.wt, Ex.wts, Pt.nodes]; omega
  | two s a b ia ib =>
    intro h
    simp only [Pt.fine, Bool.and_eq_true, decide_eq_true_eq] at h
    have h1 := ia h.2.1
    have h2 := ib h.2.2
    have h3 := hold_size1 h.1
    simp only [Pt.ex, Ex.wt, Ex.wts, Pt.nodes]; omega
  | «as» s a ia =>
    intro h
    simp only [Pt.fine, Bool.and_eq_true] at h
    have h1 := ia h.2
    have h3 := type_size4 h.1
    simp only [Pt.ex, Ex.wt, Ex.wts, Pt.nodes]; omega
theorem okq_wt {p : Pt} (hq : p.okq = true) : p.ex.wt ≤ 108 := by
  have h := Pt.okq_ok hq
  have h1 := ptq_small p (ok_fine h)
  simp only [Pt.ok, Bool.and_eq_true, decide_eq_true_eq] at h
  have := h.2.2
  omega
theorem br_small {d : Ba} (h : d.fine = true) : d.br.wt ≤ 2 ^ 29 := by
  cases d with
  | noB => decide
  | setB n p =>
    simp only [Ba.fine, Bool.and_eq_true] at h
    have h1 := name_size8 h.1
    have h3 := okq_wt h.2
    have h4 : Ex.zero.wt = 0 := rfl
    simp only [Ba.br, Br.wt]; omega
  | prB p =>
    have h3 := okq_wt (p := p) h
    have h4 : Ex.zero.wt = 0 := rfl
    have h5 : ByteArray.empty.size = 0 := rfl
    simp only [Ba.br, Br.wt]; omega
  | ifB p q =>
    simp only [Ba.fine, Bool.and_eq_true] at h
    have h3 := okq_wt h.1
    have h4 := okq_wt h.2
    have h5 : ByteArray.empty.size = 0 := rfl
    simp only [Ba.br, Br.wt]; omega
theorem btext_small {d : Ba} (h : d.fine = true) : d.text.size ≤ 2 ^ 40 := by
  have h1 := joinK_size d.words d.words.length (Nat.le_refl _)
  rw [List.take_length] at h1
  have h2 := tot_small _ (Ba.words_small h)
  have h3 := Ba.words_length h
  show (joinK d.words d.words.length).size ≤ _
  omega
theorem partV_lt (p : Pt) : ∃ t u, partV p = .iface t u := ⟨_, _, partV_at p⟩
set_option linter.unusedVariables false in
set_option linter.unusedSimpArgs false in
set_option maxRecDepth 100000 in
set_option maxHeartbeats 8000000 in
theorem bareLineOf_any (s : Br) (A1 A2 : Option Addr) (c1 c2 B : Nat) (w : World) (hA1 : KidsU w B A1 s.e.kids) (hA2 : KidsU w B A2 s.t.kids) (hc1 : s.e.kids.length ≤ c1) (hc2 : s.t.kids.length ≤ c2) (hB : B ≤ w.heap.size) (hwt : s.wt ≤ 2 ^ 29) (hL : LaidW w) :
    Calls Tryz.prog 83 #[.agg #[.int .i64 s.kind, .string s.name, .int .i64 s.e.kind, .int .i64 s.e.n, .string s.e.s, .slice A1 s.e.kids.length c1, .int .i64 s.t.kind, .int .i64 s.t.n, .string s.t.s, .slice A2 s.t.kids.length c2]] w (BareR (boS s) w) := by
  have hkl1 : s.e.kids.length ≤ 2 ^ 40 := by
    have h1 : s.e.wt ≤ s.wt := by unfold Br.wt; omega
    generalize s.e = x at *
    obtain ⟨k, n, t, ks⟩ := x
    have := Ex.wts_length ks
    simp only [Ex.wt, Ex.kids] at h1 ⊢
    omega
  obtain ⟨W0, hW0⟩ : ∃ W0, W0 = w.alloc (.cells #[.int .i64 s.kind, .string s.name, .int .i64 s.e.kind, .int .i64 s.e.n, .string s.e.s, .slice A1 s.e.kids.length c1, .int .i64 s.t.kind, .int .i64 s.t.n, .string s.t.s, .slice A2 s.t.kids.length c2] 52) := ⟨_, rfl⟩
  have hb0 : Below w.heap.size w W0 := by rw [hW0]; exact (Below.refl _ w).alloc (Nat.le_refl _) _
  have hl0 : w.heap.size < W0.heap.size := by rw [hW0]; simp
  have a0 : W0.cell? ⟨w.heap.size, 0, none⟩ = some (.int .i64 s.kind) := by rw [hW0]; exact cell_made4 w _ _ 0 _ rfl
  have a1 : W0.cell? ⟨w.heap.size, 1, none⟩ = some (.string s.name) := by rw [hW0]; exact cell_made4 w _ _ 1 _ rfl
  have a2 : W0.cell? ⟨w.heap.size, 2, none⟩ = some (.int .i64 s.e.kind) := by rw [hW0]; exact cell_made4 w _ _ 2 _ rfl
  have a3 : W0.cell? ⟨w.heap.size, 3, none⟩ = some (.int .i64 s.e.n) := by rw [hW0]; exact cell_made4 w _ _ 3 _ rfl
  have a4 : W0.cell? ⟨w.heap.size, 4, none⟩ = some (.string s.e.s) := by rw [hW0]; exact cell_made4 w _ _ 4 _ rfl
  have a5 : W0.cell? ⟨w.heap.size, 5, none⟩ = some (.slice A1 s.e.kids.length c1) := by rw [hW0]; exact cell_made4 w _ _ 5 _ rfl
  have a6 : W0.cell? ⟨w.heap.size, 6, none⟩ = some (.int .i64 s.t.kind) := by rw [hW0]; exact cell_made4 w _ _ 6 _ rfl
  have a7 : W0.cell? ⟨w.heap.size, 7, none⟩ = some (.int .i64 s.t.n) := by rw [hW0]; exact cell_made4 w _ _ 7 _ rfl
  have a8 : W0.cell? ⟨w.heap.size, 8, none⟩ = some (.string s.t.s) := by rw [hW0]; exact cell_made4 w _ _ 8 _ rfl
  have a9 : W0.cell? ⟨w.heap.size, 9, none⟩ = some (.slice A2 s.t.kids.length c2) := by rw [hW0]; exact cell_made4 w _ _ 9 _ rfl
  have HP1 := Lib.hid (barePart_any s.e A1 c1 B W0 (hA1.keep (hb0.mono hB)) hc1 (Nat.le_trans hB hb0.size) (by unfold Br.wt at hwt; omega))
  have HP2 := Lib.hid (fun (V : World) (hV : Below W0.heap.size W0 V) => barePart_any s.t A2 c2 B V (hA2.keep ((hb0.trans (hV.mono hb0.size)).mono hB)) hc2 (Nat.le_trans hB (Nat.le_trans hb0.size hV.size)) (by unfold Br.wt at hwt; omega))
  unfold PartQ at HP1 HP2
  have HA1 := Lib.hid hA1
  have HA2 := Lib.hid hA2
  have HL := Lib.hid hL
  have hns : s.name.size ≤ 2 ^ 40 := by unfold Br.wt at hwt; omega
  clear hA1 hA2 hL
  go_enter Tryz.func83, Tryz.ntmps83
  go_wp2_with fail
  rw [← hW0]
  clear hW0
  refine HP1.out.mono ?_
  rintro r w1 ⟨v1, rfl, hv1, hb1⟩
  have b0 := (hb1.cell (p := ⟨w.heap.size, 0, none⟩) hl0).trans a0
  have b1 := (hb1.cell (p := ⟨w.heap.size, 1, none⟩) hl0).trans a1
  have b2 := (hb1.cell (p := ⟨w.heap.size, 2, none⟩) hl0).trans a2
  have b3 := (hb1.cell (p := ⟨w.heap.size, 3, none⟩) hl0).trans a3
  have b4 := (hb1.cell (p := ⟨w.heap.size, 4, none⟩) hl0).trans a4
  have b5 := (hb1.cell (p := ⟨w.heap.size, 5, none⟩) hl0).trans a5
  have b6 := (hb1.cell (p := ⟨w.heap.size, 6, none⟩) hl0).trans a6
  have b7 := (hb1.cell (p := ⟨w.heap.size, 7, none⟩) hl0).trans a7
  have b8 := (hb1.cell (p := ⟨w.heap.size, 8, none⟩) hl0).trans a8
  have b9 := (hb1.cell (p := ⟨w.heap.size, 9, none⟩) hl0).trans a9
  go_wp2_with fail
  refine (HP2.out w1 hb1).mono ?_
  rintro r X ⟨v2, rfl, hv2, hb2⟩
  have hb01 := hb1.trans (hb2.mono hb1.size)
  have hbX : Below w.heap.size w X := hb0.trans (hb01.mono hb0.size)
  have hlX : w.heap.size < X.heap.size := Nat.lt_of_lt_of_le hl0 hb01.size
  have e0 := (hb01.cell (p := ⟨w.heap.size, 0, none⟩) hl0).trans a0
  have e1 := (hb01.cell (p := ⟨w.heap.size, 1, none⟩) hl0).trans a1
  have e2 := (hb01.cell (p := ⟨w.heap.size, 2, none⟩) hl0).trans a2
  have e3 := (hb01.cell (p := ⟨w.heap.size, 3, none⟩) hl0).trans a3
  have e4 := (hb01.cell (p := ⟨w.heap.size, 4, none⟩) hl0).trans a4
  have e5 := (hb01.cell (p := ⟨w.heap.size, 5, none⟩) hl0).trans a5
  have e6 := (hb01.cell (p := ⟨w.heap.size, 6, none⟩) hl0).trans a6
  have e7 := (hb01.cell (p := ⟨w.heap.size, 7, none⟩) hl0).trans a7
  have e8 := (hb01.cell (p := ⟨w.heap.size, 8, none⟩) hl0).trans a8
  have e9 := (hb01.cell (p := ⟨w.heap.size, 9, none⟩) hl0).trans a9
  have HV1 := Lib.hid hv1
  have HV2 := Lib.hid hv2
  clear hv1 hv2 HP1 HP2 a0 b0 a1 b1 a2 b2 a3 b3 a4 b4 a5 b5 a6 b6 a7 b7 a8 b8 a9 b9
  by_cases hk0 : s.kind = 0
  · have q0 : (s.kind == 0) = true := by rw [beq_iff_eq]; exact hk0
    obtain ⟨d, hd⟩ : ∃ d, d = Ba.noB := ⟨_, rfl⟩
    have hdf : d.fine = true := by rw [hd]; rfl
    have HDS := Lib.hid (show baS s = some d by unfold baS; rw [if_pos hk0, hd])
    have HVD := Lib.hid (show Value.iface 194 (.agg #[]) = .iface (baT d) (baU d) by rw [hd]; rfl)
    clear hd hk0
    go_wp2_with fail
    rw [HVD.out]
    have HST := Lib.hid (fun V => bareln_any d V)
    have HDT := Lib.hid (fun (V : World) (hV : Below X.heap.size X V) => bareText_any d hdf V (HL.out.below (hbX.trans (hV.mono hbX.size))))
    have HSS := Lib.hid (fun (V : World) (X1 X2 : Option Addr) (k1 k2 : Nat) (hV : Below X.heap.size X V) (h1 : KidsU V V.heap.size X1 d.br.e.kids) (h2 : KidsU V V.heap.size X2 d.br.t.kids) (h3 : d.br.e.kids.length ≤ k1) (h4 : d.br.t.kids.length ≤ k2) =>
      bareSame_any d.br s X1 X2 A1 A2 k1 k2 c1 c2 V.heap.size V h1 h2 ((HA1.out.keep ((hbX.trans (hV.mono hbX.size)).mono hB)).wide (Nat.le_trans hB (Nat.le_trans hbX.size hV.size))) ((HA2.out.keep ((hbX.trans (hV.mono hbX.size)).mono hB)).wide (Nat.le_trans hB (Nat.le_trans hbX.size hV.size))) h3 h4 hc1 hc2 (Nat.le_refl _) (br_small hdf))
    have HOU := Lib.hid (fun (V : World) (lo hi : Nat) (x : Ex) (A : Option Addr) (h : OwnE V x lo hi A) (hh : hi ≤ V.heap.size) => own_kidsU x lo hi A V.heap.size h hh)
    obtain ⟨m1, n1, j1⟩ := meth_bareln d
    have HDO := Lib.hid (show boS s = if sameB d.br s = true ∧ d.text.size ≤ 120 then some d else none by unfold boS; rw [HDS.out]; rfl)
    have htx : d.text.size ≤ 2 ^ 40 := btext_small hdf
    unfold baV at HDT
    unfold GivesBr brV at HST
    have HV := Lib.hid (show baV d = .iface (baT d) (baU d) from rfl)
    generalize d.text = tx at *
    generalize d.br = ds at *
    generalize baT d = t1 at *
    generalize baU d = u1 at *
    generalize fBareLn d = f1 at *
    clear hdf
    cases hsm : sameB ds s with
    | false =>
      rw [hsm] at HDO
      have HN := Lib.hid (show boS s = none by rw [HDO.out]; simp)
      have HSM := Lib.hid hsm
      simp only [hsm] at HSS
      clear hsm
      go_wp2_with fail
      refine wp_region_noPanic ?_
      refine wp_region_held_drew (S := (fun w' => w'.cell? ⟨w.heap.size, 0, none⟩ = some (.int .i64 s.kind) ∧ w'.cell? ⟨w.heap.size, 1, none⟩ = some (.string s.name) ∧ w'.cell? ⟨w.heap.size, 2, none⟩ = some (.int .i64 s.e.kind) ∧ w'.cell? ⟨w.heap.size, 3, none⟩ = some (.int .i64 s.e.n) ∧ w'.cell? ⟨w.heap.size, 4, none⟩ = some (.string s.e.s) ∧ w'.cell? ⟨w.heap.size, 5, none⟩ = some (.slice A1 s.e.kids.length c1) ∧ w'.cell? ⟨w.heap.size, 6, none⟩ = some (.int .i64 s.t.kind) ∧ w'.cell? ⟨w.heap.size, 7, none⟩ = some (.int .i64 s.t.n) ∧ w'.cell? ⟨w.heap.size, 8, none⟩ = some (.string s.t.s) ∧ w'.cell? ⟨w.heap.size, 9, none⟩ = some (.slice A2 s.t.kids.length c2))) (by kernel_rfl) (by exact ⟨e0, e1, e2, e3, e4, e5, e6, e7, e8, e9⟩) (fun hHeld => ?_)
      refine wpAnyH_take (i := 0) (v := ?valF0T1) rfl (by kernel_rfl) (by kernel_rfl) (by kernel_rfl) (fun _ _ _ h => h) (Or.inl ⟨by rfl, ?yieF0T1⟩) (by assumption) ?resF0T1
      case yieF0T1 =>
        intro w hSw
        try dsimp only at hSw
        try obtain ⟨s0, s1, s2, s3, s4, s5, s6, s7, s8, s9⟩ := hSw
        go_simp
        try with_reducible rfl
      try simp only [Act.put, List.setIfInBounds_toArray, List.set_cons_zero, List.set_cons_succ, List.getElem_toArray, List.getElem_cons_zero, List.getElem_cons_succ]
      refine wpAnyH_take (i := 1) (v := ?valF1T1) rfl (by kernel_rfl) (by kernel_rfl) (by kernel_rfl) (fun _ _ _ h => h) (Or.inl ⟨by rfl, ?yieF1T1⟩) (by assumption) ?resF1T1
      case yieF1T1 =>
        intro w hSw
        try dsimp only at hSw
        try obtain ⟨s0, s1, s2, s3, s4, s5, s6, s7, s8, s9⟩ := hSw
        go_simp
        try with_reducible rfl
      try simp only [Act.put, List.setIfInBounds_toArray, List.set_cons_zero, List.set_cons_succ, List.getElem_toArray, List.getElem_cons_zero, List.getElem_cons_succ]
      refine wpAnyH_take (i := 3) (v := ?valF3T1) rfl (by kernel_rfl) (by kernel_rfl) (by kernel_rfl) (fun _ _ _ h => h) (Or.inl ⟨by rfl, ?yieF3T1⟩) (by assumption) ?resF3T1
      case yieF3T1 =>
        intro w hSw
        try dsimp only at hSw
        try obtain ⟨s0, s1, s2, s3, s4, s5, s6, s7, s8, s9⟩ := hSw
        go_simp
        try with_reducible rfl
      try simp only [Act.put, List.setIfInBounds_toArray, List.set_cons_zero, List.set_cons_succ, List.getElem_toArray, List.getElem_cons_zero, List.getElem_cons_succ]
      refine wpAnyH_ready (rs := [2]) (by kernel_rfl) (by simp) ?_
      refine AllReadyH.cons rfl (fun K hK => ?_) AllReadyH.nil
      go_simp
      refine (HST.out _).mono ?_
      rintro r w1 ⟨X1, k1, X2, k2, mid, rfl, hk1, hk2, hO1, hO2, hmid, hb1'⟩; have hb1 : Below X.heap.size X w1 := (Below.refl _ X).drew.trans hb1'; have z0 := (hb1.cell (p := ⟨w.heap.size, 0, none⟩) hlX).trans e0; have z1 := (hb1.cell (p := ⟨w.heap.size, 1, none⟩) hlX).trans e1; have z2 := (hb1.cell (p := ⟨w.heap.size, 2, none⟩) hlX).trans e2; have z3 := (hb1.cell (p := ⟨w.heap.size, 3, none⟩) hlX).trans e3; have z4 := (hb1.cell (p := ⟨w.heap.size, 4, none⟩) hlX).trans e4; have z5 := (hb1.cell (p := ⟨w.heap.size, 5, none⟩) hlX).trans e5; have z6 := (hb1.cell (p := ⟨w.heap.size, 6, none⟩) hlX).trans e6; have z7 := (hb1.cell (p := ⟨w.heap.size, 7, none⟩) hlX).trans e7; have z8 := (hb1.cell (p := ⟨w.heap.size, 8, none⟩) hlX).trans e8; have z9 := (hb1.cell (p := ⟨w.heap.size, 9, none⟩) hlX).trans e9; have KA := HOU.out w1 _ _ _ X1 hO1 hmid; have KB := HOU.out w1 _ _ _ X2 hO2 (Nat.le_refl _)
      go_wp2_with fail
      refine hK.out _ _ (by exact ⟨z0, z1, z2, z3, z4, z5, z6, z7, z8, z9⟩) (fun hHeld => ?_)
      clear hK K
      try simp only [Act.put, List.setIfInBounds_toArray, List.set_cons_zero, List.set_cons_succ, List.getElem_toArray, List.getElem_cons_zero, List.getElem_cons_succ]
      refine wpAnyH_ready (rs := [4]) (by kernel_rfl) (by simp) ?_
      refine AllReadyH.cons rfl (fun K hK => ?_) AllReadyH.nil
      go_simp
      refine (HSS.out _ X1 X2 k1 k2 hb1 KA KB hk1 hk2).mono ?_
      rintro r w2 ⟨rfl, hb2'⟩; have hb2 : Below X.heap.size X w2 := hb1.trans (hb2'.mono hb1.size); have y0 := (hb2.cell (p := ⟨w.heap.size, 0, none⟩) hlX).trans e0; have y1 := (hb2.cell (p := ⟨w.heap.size, 1, none⟩) hlX).trans e1; have y2 := (hb2.cell (p := ⟨w.heap.size, 2, none⟩) hlX).trans e2; have y3 := (hb2.cell (p := ⟨w.heap.size, 3, none⟩) hlX).trans e3; have y4 := (hb2.cell (p := ⟨w.heap.size, 4, none⟩) hlX).trans e4; have y5 := (hb2.cell (p := ⟨w.heap.size, 5, none⟩) hlX).trans e5; have y6 := (hb2.cell (p := ⟨w.heap.size, 6, none⟩) hlX).trans e6; have y7 := (hb2.cell (p := ⟨w.heap.size, 7, none⟩) hlX).trans e7; have y8 := (hb2.cell (p := ⟨w.heap.size, 8, none⟩) hlX).trans e8; have y9 := (hb2.cell (p := ⟨w.heap.size, 9, none⟩) hlX).trans e9
      go_wp2_with fail
      refine hK.out _ _ (by exact ⟨y0, y1, y2, y3, y4, y5, y6, y7, y8, y9⟩) (fun hHeld => ?_)
      clear hK K
      try simp only [Act.put, List.setIfInBounds_toArray, List.set_cons_zero, List.set_cons_succ, List.getElem_toArray, List.getElem_cons_zero, List.getElem_cons_succ]
      refine wpAnyH_take (i := 5) (v := ?valF5T1) rfl (by kernel_rfl) (by kernel_rfl) (by kernel_rfl) (fun _ _ _ h => h) (Or.inl ⟨by rfl, ?yieF5T1⟩) (by assumption) ?resF5T1
      case yieF5T1 =>
        intro w hSw
        try dsimp only at hSw
        try obtain ⟨s0, s1, s2, s3, s4, s5, s6, s7, s8, s9⟩ := hSw
        go_simp
        try with_reducible rfl
      try simp only [Act.put, List.setIfInBounds_toArray, List.set_cons_zero, List.set_cons_succ, List.getElem_toArray, List.getElem_cons_zero, List.getElem_cons_succ]
      refine wpAnyH_take (i := 6) (v := undef) rfl (by kernel_rfl) (by kernel_rfl) (by kernel_rfl) (fun _ _ _ h => h) (Or.inr ⟨by rfl, rfl⟩) (by assumption) ?_
      try simp only [Act.put, List.setIfInBounds_toArray, List.set_cons_zero, List.set_cons_succ, List.getElem_toArray, List.getElem_cons_zero, List.getElem_cons_succ]
      refine wpAnyH_take (i := 7) (v := undef) rfl (by kernel_rfl) (by kernel_rfl) (by kernel_rfl) (fun _ _ _ h => h) (Or.inr ⟨by rfl, rfl⟩) (by assumption) ?_
      try simp only [Act.put, List.setIfInBounds_toArray, List.set_cons_zero, List.set_cons_succ, List.getElem_toArray, List.getElem_cons_zero, List.getElem_cons_succ]
      refine wpAnyH_take (i := 8) (v := undef) rfl (by kernel_rfl) (by kernel_rfl) (by kernel_rfl) (fun _ _ _ h => h) (Or.inr ⟨by rfl, rfl⟩) (by assumption) ?_
      try simp only [Act.put, List.setIfInBounds_toArray, List.set_cons_zero, List.set_cons_succ, List.getElem_toArray, List.getElem_cons_zero, List.getElem_cons_succ]
      refine wpAnyH_take (i := 9) (v := undef) rfl (by kernel_rfl) (by kernel_rfl) (by kernel_rfl) (fun _ _ _ h => h) (Or.inr ⟨by rfl, rfl⟩) (by assumption) ?_
      try simp only [Act.put, List.setIfInBounds_toArray, List.set_cons_zero, List.set_cons_succ, List.getElem_toArray, List.getElem_cons_zero, List.getElem_cons_succ]
      refine wpAnyH_take (i := 10) (v := ?valF10T1) rfl (by kernel_rfl) (by kernel_rfl) (by kernel_rfl) (fun _ _ _ h => h) (Or.inl ⟨by rfl, ?yieF10T1⟩) (by assumption) ?resF10T1
      case yieF10T1 =>
        intro w hSw
        try dsimp only at hSw
        try obtain ⟨s0, s1, s2, s3, s4, s5, s6, s7, s8, s9⟩ := hSw
        go_simp
        try with_reducible rfl
      try simp only [Act.put, List.setIfInBounds_toArray, List.set_cons_zero, List.set_cons_succ, List.getElem_toArray, List.getElem_cons_zero, List.getElem_cons_succ]
      refine wpAnyH_take (i := 11) (v := ?valF11T1) rfl (by kernel_rfl) (by kernel_rfl) (by kernel_rfl) (fun _ _ _ h => h) (Or.inl ⟨by rfl, ?yieF11T1⟩) (by assumption) ?resF11T1
      case yieF11T1 =>
        intro w hSw
        try dsimp only at hSw
        try obtain ⟨s0, s1, s2, s3, s4, s5, s6, s7, s8, s9⟩ := hSw
        go_simp
        try with_reducible rfl
      try simp only [Act.put, List.setIfInBounds_toArray, List.set_cons_zero, List.set_cons_succ, List.getElem_toArray, List.getElem_cons_zero, List.getElem_cons_succ]
      refine wpAnyH_take (i := 12) (v := ?valF12T1) rfl (by kernel_rfl) (by kernel_rfl) (by kernel_rfl) (fun _ _ _ h => h) (Or.inl ⟨by rfl, ?yieF12T1⟩) (by assumption) ?resF12T1
      case yieF12T1 =>
        intro w hSw
        try dsimp only at hSw
        try obtain ⟨s0, s1, s2, s3, s4, s5, s6, s7, s8, s9⟩ := hSw
        go_simp
        try with_reducible rfl
      try simp only [Act.put, List.setIfInBounds_toArray, List.set_cons_zero, List.set_cons_succ, List.getElem_toArray, List.getElem_cons_zero, List.getElem_cons_succ]
      refine wpAnyH_done (by kernel_rfl) ?_ _
      refine NoPanic.normal ?_
      all_goals (try go_wp2_with fail)
      go_ret2
      exact ⟨hbX.trans (hb2.mono hbX.size), .inr ⟨HN.out, _, rfl⟩⟩
    | true =>
      rw [hsm] at HDO
      have HSM := Lib.hid hsm
      simp only [hsm] at HSS
      clear hsm
      by_cases hsz : tx.size ≤ 120
      · have HN := Lib.hid (show boS s = some d by rw [HDO.out]; simp [hsz])
        have q116 : decide ((tx.size : Int) ≤ 120) = true := by simp; omega
        clear hsz
        go_wp2_with fail
        go_region_held3 (fun w' => w'.cell? ⟨w.heap.size, 0, none⟩ = some (.int .i64 s.kind) ∧ w'.cell? ⟨w.heap.size, 1, none⟩ = some (.string s.name) ∧ w'.cell? ⟨w.heap.size, 2, none⟩ = some (.int .i64 s.e.kind) ∧ w'.cell? ⟨w.heap.size, 3, none⟩ = some (.int .i64 s.e.n) ∧ w'.cell? ⟨w.heap.size, 4, none⟩ = some (.string s.e.s) ∧ w'.cell? ⟨w.heap.size, 5, none⟩ = some (.slice A1 s.e.kids.length c1) ∧ w'.cell? ⟨w.heap.size, 6, none⟩ = some (.int .i64 s.t.kind) ∧ w'.cell? ⟨w.heap.size, 7, none⟩ = some (.int .i64 s.t.n) ∧ w'.cell? ⟨w.heap.size, 8, none⟩ = some (.string s.t.s) ∧ w'.cell? ⟨w.heap.size, 9, none⟩ = some (.slice A2 s.t.kids.length c2))
          (first | exact ⟨x0, x1, x2, x3, x4, x5, x6, x7, x8, x9⟩ | exact ⟨y0, y1, y2, y3, y4, y5, y6, y7, y8, y9⟩ | exact ⟨z0, z1, z2, z3, z4, z5, z6, z7, z8, z9⟩ | exact ⟨(cell_drew0 _ _).trans e0, (cell_drew0 _ _).trans e1, (cell_drew0 _ _).trans e2, (cell_drew0 _ _).trans e3, (cell_drew0 _ _).trans e4, (cell_drew0 _ _).trans e5, (cell_drew0 _ _).trans e6, (cell_drew0 _ _).trans e7, (cell_drew0 _ _).trans e8, (cell_drew0 _ _).trans e9⟩)
          (first | (refine (HST.out _).mono ?_; rintro r w1 ⟨X1, k1, X2, k2, mid, rfl, hk1, hk2, hO1, hO2, hmid, hb1'⟩; have hb1 : Below X.heap.size X w1 := (Below.refl _ X).drew.trans hb1'; have z0 := (hb1.cell (p := ⟨w.heap.size, 0, none⟩) hlX).trans e0; have z1 := (hb1.cell (p := ⟨w.heap.size, 1, none⟩) hlX).trans e1; have z2 := (hb1.cell (p := ⟨w.heap.size, 2, none⟩) hlX).trans e2; have z3 := (hb1.cell (p := ⟨w.heap.size, 3, none⟩) hlX).trans e3; have z4 := (hb1.cell (p := ⟨w.heap.size, 4, none⟩) hlX).trans e4; have z5 := (hb1.cell (p := ⟨w.heap.size, 5, none⟩) hlX).trans e5; have z6 := (hb1.cell (p := ⟨w.heap.size, 6, none⟩) hlX).trans e6; have z7 := (hb1.cell (p := ⟨w.heap.size, 7, none⟩) hlX).trans e7; have z8 := (hb1.cell (p := ⟨w.heap.size, 8, none⟩) hlX).trans e8; have z9 := (hb1.cell (p := ⟨w.heap.size, 9, none⟩) hlX).trans e9; have KA := HOU.out w1 _ _ _ X1 hO1 hmid; have KB := HOU.out w1 _ _ _ X2 hO2 (Nat.le_refl _)) | (go_at_call 30; refine (HSS.out _ X1 X2 k1 k2 hb1 KA KB hk1 hk2).mono ?_; rintro r w2 ⟨rfl, hb2'⟩; have hb2 : Below X.heap.size X w2 := hb1.trans (hb2'.mono hb1.size); have y0 := (hb2.cell (p := ⟨w.heap.size, 0, none⟩) hlX).trans e0; have y1 := (hb2.cell (p := ⟨w.heap.size, 1, none⟩) hlX).trans e1; have y2 := (hb2.cell (p := ⟨w.heap.size, 2, none⟩) hlX).trans e2; have y3 := (hb2.cell (p := ⟨w.heap.size, 3, none⟩) hlX).trans e3; have y4 := (hb2.cell (p := ⟨w.heap.size, 4, none⟩) hlX).trans e4; have y5 := (hb2.cell (p := ⟨w.heap.size, 5, none⟩) hlX).trans e5; have y6 := (hb2.cell (p := ⟨w.heap.size, 6, none⟩) hlX).trans e6; have y7 := (hb2.cell (p := ⟨w.heap.size, 7, none⟩) hlX).trans e7; have y8 := (hb2.cell (p := ⟨w.heap.size, 8, none⟩) hlX).trans e8; have y9 := (hb2.cell (p := ⟨w.heap.size, 9, none⟩) hlX).trans e9) | (go_at_call 68; refine (HDT.out _ hb2).mono ?_; rintro r w3 ⟨rfl, hb3'⟩; have hb3 : Below X.heap.size X w3 := hb2.trans (hb3'.mono hb2.size); have x0 := (hb3.cell (p := ⟨w.heap.size, 0, none⟩) hlX).trans e0; have x1 := (hb3.cell (p := ⟨w.heap.size, 1, none⟩) hlX).trans e1; have x2 := (hb3.cell (p := ⟨w.heap.size, 2, none⟩) hlX).trans e2; have x3 := (hb3.cell (p := ⟨w.heap.size, 3, none⟩) hlX).trans e3; have x4 := (hb3.cell (p := ⟨w.heap.size, 4, none⟩) hlX).trans e4; have x5 := (hb3.cell (p := ⟨w.heap.size, 5, none⟩) hlX).trans e5; have x6 := (hb3.cell (p := ⟨w.heap.size, 6, none⟩) hlX).trans e6; have x7 := (hb3.cell (p := ⟨w.heap.size, 7, none⟩) hlX).trans e7; have x8 := (hb3.cell (p := ⟨w.heap.size, 8, none⟩) hlX).trans e8; have x9 := (hb3.cell (p := ⟨w.heap.size, 9, none⟩) hlX).trans e9))
        go_wp2_with fail
        go_ret2
        exact ⟨hbX.trans (hb3.mono hbX.size), .inl ⟨d, HN.out, by rw [HV.out]; rfl⟩⟩
      · have HN := Lib.hid (show boS s = none by rw [HDO.out]; simp [hsz])
        have q116 : decide ((tx.size : Int) ≤ 120) = false := by simp; omega
        clear hsz
        go_wp2_with fail
        go_region_held3 (fun w' => w'.cell? ⟨w.heap.size, 0, none⟩ = some (.int .i64 s.kind) ∧ w'.cell? ⟨w.heap.size, 1, none⟩ = some (.string s.name) ∧ w'.cell? ⟨w.heap.size, 2, none⟩ = some (.int .i64 s.e.kind) ∧ w'.cell? ⟨w.heap.size, 3, none⟩ = some (.int .i64 s.e.n) ∧ w'.cell? ⟨w.heap.size, 4, none⟩ = some (.string s.e.s) ∧ w'.cell? ⟨w.heap.size, 5, none⟩ = some (.slice A1 s.e.kids.length c1) ∧ w'.cell? ⟨w.heap.size, 6, none⟩ = some (.int .i64 s.t.kind) ∧ w'.cell? ⟨w.heap.size, 7, none⟩ = some (.int .i64 s.t.n) ∧ w'.cell? ⟨w.heap.size, 8, none⟩ = some (.string s.t.s) ∧ w'.cell? ⟨w.heap.size, 9, none⟩ = some (.slice A2 s.t.kids.length c2))
          (first | exact ⟨x0, x1, x2, x3, x4, x5, x6, x7, x8, x9⟩ | exact ⟨y0, y1, y2, y3, y4, y5, y6, y7, y8, y9⟩ | exact ⟨z0, z1, z2, z3, z4, z5, z6, z7, z8, z9⟩ | exact ⟨(cell_drew0 _ _).trans e0, (cell_drew0 _ _).trans e1, (cell_drew0 _ _).trans e2, (cell_drew0 _ _).trans e3, (cell_drew0 _ _).trans e4, (cell_drew0 _ _).trans e5, (cell_drew0 _ _).trans e6, (cell_drew0 _ _).trans e7, (cell_drew0 _ _).trans e8, (cell_drew0 _ _).trans e9⟩)
          (first | (refine (HST.out _).mono ?_; rintro r w1 ⟨X1, k1, X2, k2, mid, rfl, hk1, hk2, hO1, hO2, hmid, hb1'⟩; have hb1 : Below X.heap.size X w1 := (Below.refl _ X).drew.trans hb1'; have z0 := (hb1.cell (p := ⟨w.heap.size, 0, none⟩) hlX).trans e0; have z1 := (hb1.cell (p := ⟨w.heap.size, 1, none⟩) hlX).trans e1; have z2 := (hb1.cell (p := ⟨w.heap.size, 2, none⟩) hlX).trans e2; have z3 := (hb1.cell (p := ⟨w.heap.size, 3, none⟩) hlX).trans e3; have z4 := (hb1.cell (p := ⟨w.heap.size, 4, none⟩) hlX).trans e4; have z5 := (hb1.cell (p := ⟨w.heap.size, 5, none⟩) hlX).trans e5; have z6 := (hb1.cell (p := ⟨w.heap.size, 6, none⟩) hlX).trans e6; have z7 := (hb1.cell (p := ⟨w.heap.size, 7, none⟩) hlX).trans e7; have z8 := (hb1.cell (p := ⟨w.heap.size, 8, none⟩) hlX).trans e8; have z9 := (hb1.cell (p := ⟨w.heap.size, 9, none⟩) hlX).trans e9; have KA := HOU.out w1 _ _ _ X1 hO1 hmid; have KB := HOU.out w1 _ _ _ X2 hO2 (Nat.le_refl _)) | (go_at_call 30; refine (HSS.out _ X1 X2 k1 k2 hb1 KA KB hk1 hk2).mono ?_; rintro r w2 ⟨rfl, hb2'⟩; have hb2 : Below X.heap.size X w2 := hb1.trans (hb2'.mono hb1.size); have y0 := (hb2.cell (p := ⟨w.heap.size, 0, none⟩) hlX).trans e0; have y1 := (hb2.cell (p := ⟨w.heap.size, 1, none⟩) hlX).trans e1; have y2 := (hb2.cell (p := ⟨w.heap.size, 2, none⟩) hlX).trans e2; have y3 := (hb2.cell (p := ⟨w.heap.size, 3, none⟩) hlX).trans e3; have y4 := (hb2.cell (p := ⟨w.heap.size, 4, none⟩) hlX).trans e4; have y5 := (hb2.cell (p := ⟨w.heap.size, 5, none⟩) hlX).trans e5; have y6 := (hb2.cell (p := ⟨w.heap.size, 6, none⟩) hlX).trans e6; have y7 := (hb2.cell (p := ⟨w.heap.size, 7, none⟩) hlX).trans e7; have y8 := (hb2.cell (p := ⟨w.heap.size, 8, none⟩) hlX).trans e8; have y9 := (hb2.cell (p := ⟨w.heap.size, 9, none⟩) hlX).trans e9) | (go_at_call 68; refine (HDT.out _ hb2).mono ?_; rintro r w3 ⟨rfl, hb3'⟩; have hb3 : Below X.heap.size X w3 := hb2.trans (hb3'.mono hb2.size); have x0 := (hb3.cell (p := ⟨w.heap.size, 0, none⟩) hlX).trans e0; have x1 := (hb3.cell (p := ⟨w.heap.size, 1, none⟩) hlX).trans e1; have x2 := (hb3.cell (p := ⟨w.heap.size, 2, none⟩) hlX).trans e2; have x3 := (hb3.cell (p := ⟨w.heap.size, 3, none⟩) hlX).trans e3; have x4 := (hb3.cell (p := ⟨w.heap.size, 4, none⟩) hlX).trans e4; have x5 := (hb3.cell (p := ⟨w.heap.size, 5, none⟩) hlX).trans e5; have x6 := (hb3.cell (p := ⟨w.heap.size, 6, none⟩) hlX).trans e6; have x7 := (hb3.cell (p := ⟨w.heap.size, 7, none⟩) hlX).trans e7; have x8 := (hb3.cell (p := ⟨w.heap.size, 8, none⟩) hlX).trans e8; have x9 := (hb3.cell (p := ⟨w.heap.size, 9, none⟩) hlX).trans e9))
        go_wp2_with fail
        go_ret2
        exact ⟨hbX.trans (hb3.mono hbX.size), .inr ⟨HN.out, _, rfl⟩⟩
  have q0 : (s.kind == 0) = false := by rw [beq_eq_false_iff_ne]; exact hk0
  by_cases hk1 : s.kind = 1
  · have q1 : (s.kind == 1) = true := by rw [beq_iff_eq]; exact hk1
    have q2 : (s.kind == 2) = false := by rw [beq_eq_false_iff_ne]; omega
    have q3 : (s.kind == 3) = false := by rw [beq_eq_false_iff_ne]; omega
    have HD1 := Lib.hid (show baS s = if nameB s.name = true then (okQ s.e).map (fun p => .setB s.name p) else none by unfold baS; rw [if_neg hk0, if_pos hk1])
    have HNM := Lib.hid (nameOk_any s.name X hns)
    clear hk0 hk1
    cases hnm : nameB s.name with
    | false =>
      rw [hnm] at HNM
      have HN := Lib.hid (show boS s = none by unfold boS; rw [HD1.out, hnm]; simp)
      clear hnm
      go_wp2_with fail
      refine HNM.out.mono ?_
      rintro r Y ⟨rfl, hbXY⟩
      have hbY := hbX.trans (hbXY.mono hbX.size)
      have hlY : w.heap.size < Y.heap.size := Nat.lt_of_lt_of_le hlX hbXY.size
      have ey0 := (hbXY.cell (p := ⟨w.heap.size, 0, none⟩) hlX).trans e0
      have ey1 := (hbXY.cell (p := ⟨w.heap.size, 1, none⟩) hlX).trans e1
      have ey2 := (hbXY.cell (p := ⟨w.heap.size, 2, none⟩) hlX).trans e2
      have ey3 := (hbXY.cell (p := ⟨w.heap.size, 3, none⟩) hlX).trans e3
      have ey4 := (hbXY.cell (p := ⟨w.heap.size, 4, none⟩) hlX).trans e4
      have ey5 := (hbXY.cell (p := ⟨w.heap.size, 5, none⟩) hlX).trans e5
      have ey6 := (hbXY.cell (p := ⟨w.heap.size, 6, none⟩) hlX).trans e6
      have ey7 := (hbXY.cell (p := ⟨w.heap.size, 7, none⟩) hlX).trans e7
      have ey8 := (hbXY.cell (p := ⟨w.heap.size, 8, none⟩) hlX).trans e8
      have ey9 := (hbXY.cell (p := ⟨w.heap.size, 9, none⟩) hlX).trans e9
      clear e0 e1 e2 e3 e4 e5 e6 e7 e8 e9
      go_wp2_with fail
      go_ret2
      exact ⟨hbY, .inr ⟨HN.out, _, rfl⟩⟩
    | true =>
      rw [hnm] at HNM
      have HN0 := Lib.hid (show okQ s.e = none → boS s = none from fun h => by unfold boS; rw [HD1.out, h]; simp)
      have HDS0 := Lib.hid (show ∀ p, okQ s.e = some p → baS s = some (.setB s.name p) from fun p h => by rw [HD1.out, h, hnm]; simp)
      have HFN := Lib.hid (show ∀ p, okQ s.e = some p → (Ba.setB s.name p).fine = true from fun p h => by simp [Ba.fine, hnm, (okQ_some h).2])
      clear hnm HD1
      cases hok : okQ s.e with
      | none =>
        have HN := Lib.hid (HN0.out hok)
        clear hok
        go_wp2_with fail
        refine HNM.out.mono ?_
        rintro r Y ⟨rfl, hbXY⟩
        have hbY := hbX.trans (hbXY.mono hbX.size)
        have hlY : w.heap.size < Y.heap.size := Nat.lt_of_lt_of_le hlX hbXY.size
        have ey0 := (hbXY.cell (p := ⟨w.heap.size, 0, none⟩) hlX).trans e0
        have ey1 := (hbXY.cell (p := ⟨w.heap.size, 1, none⟩) hlX).trans e1
        have ey2 := (hbXY.cell (p := ⟨w.heap.size, 2, none⟩) hlX).trans e2
        have ey3 := (hbXY.cell (p := ⟨w.heap.size, 3, none⟩) hlX).trans e3
        have ey4 := (hbXY.cell (p := ⟨w.heap.size, 4, none⟩) hlX).trans e4
        have ey5 := (hbXY.cell (p := ⟨w.heap.size, 5, none⟩) hlX).trans e5
        have ey6 := (hbXY.cell (p := ⟨w.heap.size, 6, none⟩) hlX).trans e6
        have ey7 := (hbXY.cell (p := ⟨w.heap.size, 7, none⟩) hlX).trans e7
        have ey8 := (hbXY.cell (p := ⟨w.heap.size, 8, none⟩) hlX).trans e8
        have ey9 := (hbXY.cell (p := ⟨w.heap.size, 9, none⟩) hlX).trans e9
        clear e0 e1 e2 e3 e4 e5 e6 e7 e8 e9
        go_wp2_with fail
        go_ret2
        exact ⟨hbY, .inr ⟨HN.out, _, rfl⟩⟩
      | some p =>
        obtain rfl := HV1.out p hok
        obtain ⟨d, hd⟩ : ∃ d, d = Ba.setB s.name p := ⟨_, rfl⟩
        have hdf : d.fine = true := by rw [hd]; exact HFN.out p hok
        have HDS := Lib.hid (show baS s = some d by rw [hd]; exact HDS0.out p hok)
        have HVD := Lib.hid (show Value.iface 189 (.agg #[.string s.name, partV p]) = .iface (baT d) (baU d) by rw [hd]; rfl)
        obtain ⟨tp, up, hpv⟩ := partV_lt p
        rw [hpv] at HVD ⊢
        clear hd hok hpv
        go_wp2_with fail
        refine HNM.out.mono ?_
        rintro r Y ⟨rfl, hbXY⟩
        have hbY := hbX.trans (hbXY.mono hbX.size)
        have hlY : w.heap.size < Y.heap.size := Nat.lt_of_lt_of_le hlX hbXY.size
        have ey0 := (hbXY.cell (p := ⟨w.heap.size, 0, none⟩) hlX).trans e0
        have ey1 := (hbXY.cell (p := ⟨w.heap.size, 1, none⟩) hlX).trans e1
        have ey2 := (hbXY.cell (p := ⟨w.heap.size, 2, none⟩) hlX).trans e2
        have ey3 := (hbXY.cell (p := ⟨w.heap.size, 3, none⟩) hlX).trans e3
        have ey4 := (hbXY.cell (p := ⟨w.heap.size, 4, none⟩) hlX).trans e4
        have ey5 := (hbXY.cell (p := ⟨w.heap.size, 5, none⟩) hlX).trans e5
        have ey6 := (hbXY.cell (p := ⟨w.heap.size, 6, none⟩) hlX).trans e6
        have ey7 := (hbXY.cell (p := ⟨w.heap.size, 7, none⟩) hlX).trans e7
        have ey8 := (hbXY.cell (p := ⟨w.heap.size, 8, none⟩) hlX).trans e8
        have ey9 := (hbXY.cell (p := ⟨w.heap.size, 9, none⟩) hlX).trans e9
        clear e0 e1 e2 e3 e4 e5 e6 e7 e8 e9
        go_wp2_with fail
        rw [HVD.out]
        have HST := Lib.hid (fun V => bareln_any d V)
        have HDT := Lib.hid (fun (V : World) (hV : Below Y.heap.size Y V) => bareText_any d hdf V (HL.out.below (hbY.trans (hV.mono hbY.size))))
        have HSS := Lib.hid (fun (V : World) (X1 X2 : Option Addr) (k1 k2 : Nat) (hV : Below Y.heap.size Y V) (h1 : KidsU V V.heap.size X1 d.br.e.kids) (h2 : KidsU V V.heap.size X2 d.br.t.kids) (h3 : d.br.e.kids.length ≤ k1) (h4 : d.br.t.kids.length ≤ k2) =>
          bareSame_any d.br s X1 X2 A1 A2 k1 k2 c1 c2 V.heap.size V h1 h2 ((HA1.out.keep ((hbY.trans (hV.mono hbY.size)).mono hB)).wide (Nat.le_trans hB (Nat.le_trans hbY.size hV.size))) ((HA2.out.keep ((hbY.trans (hV.mono hbY.size)).mono hB)).wide (Nat.le_trans hB (Nat.le_trans hbY.size hV.size))) h3 h4 hc1 hc2 (Nat.le_refl _) (br_small hdf))
        have HOU := Lib.hid (fun (V : World) (lo hi : Nat) (x : Ex) (A : Option Addr) (h : OwnE V x lo hi A) (hh : hi ≤ V.heap.size) => own_kidsU x lo hi A V.heap.size h hh)
        obtain ⟨m1, n1, j1⟩ := meth_bareln d
        have HDO := Lib.hid (show boS s = if sameB d.br s = true ∧ d.text.size ≤ 120 then some d else none by unfold boS; rw [HDS.out]; rfl)
        have htx : d.text.size ≤ 2 ^ 40 := btext_small hdf
        unfold baV at HDT
        unfold GivesBr brV at HST
        have HV := Lib.hid (show baV d = .iface (baT d) (baU d) from rfl)
        generalize d.text = tx at *
        generalize d.br = ds at *
        generalize baT d = t1 at *
        generalize baU d = u1 at *
        generalize fBareLn d = f1 at *
        clear hdf
        cases hsm : sameB ds s with
        | false =>
          rw [hsm] at HDO
          have HN := Lib.hid (show boS s = none by rw [HDO.out]; simp)
          have HSM := Lib.hid hsm
          simp only [hsm] at HSS
          clear hsm
          go_wp2_with fail
          refine wp_region_noPanic ?_
          refine wp_region_held_drew (S := (fun w' => w'.cell? ⟨w.heap.size, 0, none⟩ = some (.int .i64 s.kind) ∧ w'.cell? ⟨w.heap.size, 1, none⟩ = some (.string s.name) ∧ w'.cell? ⟨w.heap.size, 2, none⟩ = some (.int .i64 s.e.kind) ∧ w'.cell? ⟨w.heap.size, 3, none⟩ = some (.int .i64 s.e.n) ∧ w'.cell? ⟨w.heap.size, 4, none⟩ = some (.string s.e.s) ∧ w'.cell? ⟨w.heap.size, 5, none⟩ = some (.slice A1 s.e.kids.length c1) ∧ w'.cell? ⟨w.heap.size, 6, none⟩ = some (.int .i64 s.t.kind) ∧ w'.cell? ⟨w.heap.size, 7, none⟩ = some (.int .i64 s.t.n) ∧ w'.cell? ⟨w.heap.size, 8, none⟩ = some (.string s.t.s) ∧ w'.cell? ⟨w.heap.size, 9, none⟩ = some (.slice A2 s.t.kids.length c2))) (by kernel_rfl) (by exact ⟨ey0, ey1, ey2, ey3, ey4, ey5, ey6, ey7, ey8, ey9⟩) (fun hHeld => ?_)
          refine wpAnyH_take (i := 0) (v := ?valF0T2) rfl (by kernel_rfl) (by kernel_rfl) (by kernel_rfl) (fun _ _ _ h => h) (Or.inl ⟨by rfl, ?yieF0T2⟩) (by assumption) ?resF0T2
          case yieF0T2 =>
            intro w hSw
            try dsimp only at hSw
            try obtain ⟨s0, s1, s2, s3, s4, s5, s6, s7, s8, s9⟩ := hSw
            go_simp
            try with_reducible rfl
          try simp only [Act.put, List.setIfInBounds_toArray, List.set_cons_zero, List.set_cons_succ, List.getElem_toArray, List.getElem_cons_zero, List.getElem_cons_succ]
          refine wpAnyH_take (i := 1) (v := ?valF1T2) rfl (by kernel_rfl) (by kernel_rfl) (by kernel_rfl) (fun _ _ _ h => h) (Or.inl ⟨by rfl, ?yieF1T2⟩) (by assumption) ?resF1T2
          case yieF1T2 =>
            intro w hSw
            try dsimp only at hSw
            try obtain ⟨s0, s1, s2, s3, s4, s5, s6, s7, s8, s9⟩ := hSw
            go_simp
            try with_reducible rfl
          try simp only [Act.put, List.setIfInBounds_toArray, List.set_cons_zero, List.set_cons_succ, List.getElem_toArray, List.getElem_cons_zero, List.getElem_cons_succ]
          refine wpAnyH_take (i := 3) (v := ?valF3T2) rfl (by kernel_rfl) (by kernel_rfl) (by kernel_rfl) (fun _ _ _ h => h) (Or.inl ⟨by rfl, ?yieF3T2⟩) (by assumption) ?resF3T2
          case yieF3T2 =>
            intro w hSw
            try dsimp only at hSw
            try obtain ⟨s0, s1, s2, s3, s4, s5, s6, s7, s8, s9⟩ := hSw
            go_simp
            try with_reducible rfl
          try simp only [Act.put, List.setIfInBounds_toArray, List.set_cons_zero, List.set_cons_succ, List.getElem_toArray, List.getElem_cons_zero, List.getElem_cons_succ]
          refine wpAnyH_ready (rs := [2]) (by kernel_rfl) (by simp) ?_
          refine AllReadyH.cons rfl (fun K hK => ?_) AllReadyH.nil
          go_simp
          refine (HST.out _).mono ?_
          rintro r w1 ⟨X1, k1, X2, k2, mid, rfl, hk1, hk2, hO1, hO2, hmid, hb1'⟩; have hb1 : Below Y.heap.size Y w1 := (Below.refl _ Y).drew.trans hb1'; have z0 := (hb1.cell (p := ⟨w.heap.size, 0, none⟩) hlY).trans ey0; have z1 := (hb1.cell (p := ⟨w.heap.size, 1, none⟩) hlY).trans ey1; have z2 := (hb1.cell (p := ⟨w.heap.size, 2, none⟩) hlY).trans ey2; have z3 := (hb1.cell (p := ⟨w.heap.size, 3, none⟩) hlY).trans ey3; have z4 := (hb1.cell (p := ⟨w.heap.size, 4, none⟩) hlY).trans ey4; have z5 := (hb1.cell (p := ⟨w.heap.size, 5, none⟩) hlY).trans ey5; have z6 := (hb1.cell (p := ⟨w.heap.size, 6, none⟩) hlY).trans ey6; have z7 := (hb1.cell (p := ⟨w.heap.size, 7, none⟩) hlY).trans ey7; have z8 := (hb1.cell (p := ⟨w.heap.size, 8, none⟩) hlY).trans ey8; have z9 := (hb1.cell (p := ⟨w.heap.size, 9, none⟩) hlY).trans ey9; have KA := HOU.out w1 _ _ _ X1 hO1 hmid; have KB := HOU.out w1 _ _ _ X2 hO2 (Nat.le_refl _)
          go_wp2_with fail
          refine hK.out _ _ (by exact ⟨z0, z1, z2, z3, z4, z5, z6, z7, z8, z9⟩) (fun hHeld => ?_)
          clear hK K
          try simp only [Act.put, List.setIfInBounds_toArray, List.set_cons_zero, List.set_cons_succ, List.getElem_toArray, List.getElem_cons_zero, List.getElem_cons_succ]
          refine wpAnyH_ready (rs := [4]) (by kernel_rfl) (by simp) ?_
          refine AllReadyH.cons rfl (fun K hK => ?_) AllReadyH.nil
          go_simp
          refine (HSS.out _ X1 X2 k1 k2 hb1 KA KB hk1 hk2).mono ?_
          rintro r w2 ⟨rfl, hb2'⟩; have hb2 : Below Y.heap.size Y w2 := hb1.trans (hb2'.mono hb1.size); have y0 := (hb2.cell (p := ⟨w.heap.size, 0, none⟩) hlY).trans ey0; have y1 := (hb2.cell (p := ⟨w.heap.size, 1, none⟩) hlY).trans ey1; have y2 := (hb2.cell (p := ⟨w.heap.size, 2, none⟩) hlY).trans ey2; have y3 := (hb2.cell (p := ⟨w.heap.size, 3, none⟩) hlY).trans ey3; have y4 := (hb2.cell (p := ⟨w.heap.size, 4, none⟩) hlY).trans ey4; have y5 := (hb2.cell (p := ⟨w.heap.size, 5, none⟩) hlY).trans ey5; have y6 := (hb2.cell (p := ⟨w.heap.size, 6, none⟩) hlY).trans ey6; have y7 := (hb2.cell (p := ⟨w.heap.size, 7, none⟩) hlY).trans ey7; have y8 := (hb2.cell (p := ⟨w.heap.size, 8, none⟩) hlY).trans ey8; have y9 := (hb2.cell (p := ⟨w.heap.size, 9, none⟩) hlY).trans ey9
          go_wp2_with fail
          refine hK.out _ _ (by exact ⟨y0, y1, y2, y3, y4, y5, y6, y7, y8, y9⟩) (fun hHeld => ?_)
          clear hK K
          try simp only [Act.put, List.setIfInBounds_toArray, List.set_cons_zero, List.set_cons_succ, List.getElem_toArray, List.getElem_cons_zero, List.getElem_cons_succ]
          refine wpAnyH_take (i := 5) (v := ?valF5T2) rfl (by kernel_rfl) (by kernel_rfl) (by kernel_rfl) (fun _ _ _ h => h) (Or.inl ⟨by rfl, ?yieF5T2⟩) (by assumption) ?resF5T2
          case yieF5T2 =>
            intro w hSw
            try dsimp only at hSw
            try obtain ⟨s0, s1, s2, s3, s4, s5, s6, s7, s8, s9⟩ := hSw
            go_simp
            try with_reducible rfl
          try simp only [Act.put, List.setIfInBounds_toArray, List.set_cons_zero, List.set_cons_succ, List.getElem_toArray, List.getElem_cons_zero, List.getElem_cons_succ]
          refine wpAnyH_take (i := 6) (v := undef) rfl (by kernel_rfl) (by kernel_rfl) (by kernel_rfl) (fun _ _ _ h => h) (Or.inr ⟨by rfl, rfl⟩) (by assumption) ?_
          try simp only [Act.put, List.setIfInBounds_toArray, List.set_cons_zero, List.set_cons_succ, List.getElem_toArray, List.getElem_cons_zero, List.getElem_cons_succ]
          refine wpAnyH_take (i := 7) (v := undef) rfl (by kernel_rfl) (by kernel_rfl) (by kernel_rfl) (fun _ _ _ h => h) (Or.inr ⟨by rfl, rfl⟩) (by assumption) ?_
          try simp only [Act.put, List.setIfInBounds_toArray, List.set_cons_zero, List.set_cons_succ, List.getElem_toArray, List.getElem_cons_zero, List.getElem_cons_succ]
          refine wpAnyH_take (i := 8) (v := undef) rfl (by kernel_rfl) (by kernel_rfl) (by kernel_rfl) (fun _ _ _ h => h) (Or.inr ⟨by rfl, rfl⟩) (by assumption) ?_
          try simp only [Act.put, List.setIfInBounds_toArray, List.set_cons_zero, List.set_cons_succ, List.getElem_toArray, List.getElem_cons_zero, List.getElem_cons_succ]
          refine wpAnyH_take (i := 9) (v := undef) rfl (by kernel_rfl) (by kernel_rfl) (by kernel_rfl) (fun _ _ _ h => h) (Or.inr ⟨by rfl, rfl⟩) (by assumption) ?_
          try simp only [Act.put, List.setIfInBounds_toArray, List.set_cons_zero, List.set_cons_succ, List.getElem_toArray, List.getElem_cons_zero, List.getElem_cons_succ]
          refine wpAnyH_take (i := 10) (v := ?valF10T2) rfl (by kernel_rfl) (by kernel_rfl) (by kernel_rfl) (fun _ _ _ h => h) (Or.inl ⟨by rfl, ?yieF10T2⟩) (by assumption) ?resF10T2
          case yieF10T2 =>
            intro w hSw
            try dsimp only at hSw
            try obtain ⟨s0, s1, s2, s3, s4, s5, s6, s7, s8, s9⟩ := hSw
            go_simp
            try with_reducible rfl
          try simp only [Act.put, List.setIfInBounds_toArray, List.set_cons_zero, List.set_cons_succ, List.getElem_toArray, List.getElem_cons_zero, List.getElem_cons_succ]
          refine wpAnyH_take (i := 11) (v := ?valF11T2) rfl (by kernel_rfl) (by kernel_rfl) (by kernel_rfl) (fun _ _ _ h => h) (Or.inl ⟨by rfl, ?yieF11T2⟩) (by assumption) ?resF11T2
          case yieF11T2 =>
            intro w hSw
            try dsimp only at hSw
            try obtain ⟨s0, s1, s2, s3, s4, s5, s6, s7, s8, s9⟩ := hSw
            go_simp
            try with_reducible rfl
          try simp only [Act.put, List.setIfInBounds_toArray, List.set_cons_zero, List.set_cons_succ, List.getElem_toArray, List.getElem_cons_zero, List.getElem_cons_succ]
          refine wpAnyH_take (i := 12) (v := ?valF12T2) rfl (by kernel_rfl) (by kernel_rfl) (by kernel_rfl) (fun _ _ _ h => h) (Or.inl ⟨by rfl, ?yieF12T2⟩) (by assumption) ?resF12T2
          case yieF12T2 =>
            intro w hSw
            try dsimp only at hSw
            try obtain ⟨s0, s1, s2, s3, s4, s5, s6, s7, s8, s9⟩ := hSw
            go_simp
            try with_reducible rfl
          try simp only [Act.put, List.setIfInBounds_toArray, List.set_cons_zero, List.set_cons_succ, List.getElem_toArray, List.getElem_cons_zero, List.getElem_cons_succ]
          refine wpAnyH_done (by kernel_rfl) ?_ _
          refine NoPanic.normal ?_
          all_goals (try go_wp2_with fail)
          go_ret2
          exact ⟨hbY.trans (hb2.mono hbY.size), .inr ⟨HN.out, _, rfl⟩⟩
        | true =>
          rw [hsm] at HDO
          have HSM := Lib.hid hsm
          simp only [hsm] at HSS
          clear hsm
          by_cases hsz : tx.size ≤ 120
          · have HN := Lib.hid (show boS s = some d by rw [HDO.out]; simp [hsz])
            have q116 : decide ((tx.size : Int) ≤ 120) = true := by simp; omega
            clear hsz
            go_wp2_with fail
            go_region_held3 (fun w' => w'.cell? ⟨w.heap.size, 0, none⟩ = some (.int .i64 s.kind) ∧ w'.cell? ⟨w.heap.size, 1, none⟩ = some (.string s.name) ∧ w'.cell? ⟨w.heap.size, 2, none⟩ = some (.int .i64 s.e.kind) ∧ w'.cell? ⟨w.heap.size, 3, none⟩ = some (.int .i64 s.e.n) ∧ w'.cell? ⟨w.heap.size, 4, none⟩ = some (.string s.e.s) ∧ w'.cell? ⟨w.heap.size, 5, none⟩ = some (.slice A1 s.e.kids.length c1) ∧ w'.cell? ⟨w.heap.size, 6, none⟩ = some (.int .i64 s.t.kind) ∧ w'.cell? ⟨w.heap.size, 7, none⟩ = some (.int .i64 s.t.n) ∧ w'.cell? ⟨w.heap.size, 8, none⟩ = some (.string s.t.s) ∧ w'.cell? ⟨w.heap.size, 9, none⟩ = some (.slice A2 s.t.kids.length c2))
              (first | exact ⟨x0, x1, x2, x3, x4, x5, x6, x7, x8, x9⟩ | exact ⟨y0, y1, y2, y3, y4, y5, y6, y7, y8, y9⟩ | exact ⟨z0, z1, z2, z3, z4, z5, z6, z7, z8, z9⟩ | exact ⟨(cell_drew0 _ _).trans ey0, (cell_drew0 _ _).trans ey1, (cell_drew0 _ _).trans ey2, (cell_drew0 _ _).trans ey3, (cell_drew0 _ _).trans ey4, (cell_drew0 _ _).trans ey5, (cell_drew0 _ _).trans ey6, (cell_drew0 _ _).trans ey7, (cell_drew0 _ _).trans ey8, (cell_drew0 _ _).trans ey9⟩)
              (first | (refine (HST.out _).mono ?_; rintro r w1 ⟨X1, k1, X2, k2, mid, rfl, hk1, hk2, hO1, hO2, hmid, hb1'⟩; have hb1 : Below Y.heap.size Y w1 := (Below.refl _ Y).drew.trans hb1'; have z0 := (hb1.cell (p := ⟨w.heap.size, 0, none⟩) hlY).trans ey0; have z1 := (hb1.cell (p := ⟨w.heap.size, 1, none⟩) hlY).trans ey1; have z2 := (hb1.cell (p := ⟨w.heap.size, 2, none⟩) hlY).trans ey2; have z3 := (hb1.cell (p := ⟨w.heap.size, 3, none⟩) hlY).trans ey3; have z4 := (hb1.cell (p := ⟨w.heap.size, 4, none⟩) hlY).trans ey4; have z5 := (hb1.cell (p := ⟨w.heap.size, 5, none⟩) hlY).trans ey5; have z6 := (hb1.cell (p := ⟨w.heap.size, 6, none⟩) hlY).trans ey6; have z7 := (hb1.cell (p := ⟨w.heap.size, 7, none⟩) hlY).trans ey7; have z8 := (hb1.cell (p := ⟨w.heap.size, 8, none⟩) hlY).trans ey8; have z9 := (hb1.cell (p := ⟨w.heap.size, 9, none⟩) hlY).trans ey9; have KA := HOU.out w1 _ _ _ X1 hO1 hmid; have KB := HOU.out w1 _ _ _ X2 hO2 (Nat.le_refl _)) | (go_at_call 30; refine (HSS.out _ X1 X2 k1 k2 hb1 KA KB hk1 hk2).mono ?_; rintro r w2 ⟨rfl, hb2'⟩; have hb2 : Below Y.heap.size Y w2 := hb1.trans (hb2'.mono hb1.size); have y0 := (hb2.cell (p := ⟨w.heap.size, 0, none⟩) hlY).trans ey0; have y1 := (hb2.cell (p := ⟨w.heap.size, 1, none⟩) hlY).trans ey1; have y2 := (hb2.cell (p := ⟨w.heap.size, 2, none⟩) hlY).trans ey2; have y3 := (hb2.cell (p := ⟨w.heap.size, 3, none⟩) hlY).trans ey3; have y4 := (hb2.cell (p := ⟨w.heap.size, 4, none⟩) hlY).trans ey4; have y5 := (hb2.cell (p := ⟨w.heap.size, 5, none⟩) hlY).trans ey5; have y6 := (hb2.cell (p := ⟨w.heap.size, 6, none⟩) hlY).trans ey6; have y7 := (hb2.cell (p := ⟨w.heap.size, 7, none⟩) hlY).trans ey7; have y8 := (hb2.cell (p := ⟨w.heap.size, 8, none⟩) hlY).trans ey8; have y9 := (hb2.cell (p := ⟨w.heap.size, 9, none⟩) hlY).trans ey9) | (go_at_call 68; refine (HDT.out _ hb2).mono ?_; rintro r w3 ⟨rfl, hb3'⟩; have hb3 : Below Y.heap.size Y w3 := hb2.trans (hb3'.mono hb2.size); have x0 := (hb3.cell (p := ⟨w.heap.size, 0, none⟩) hlY).trans ey0; have x1 := (hb3.cell (p := ⟨w.heap.size, 1, none⟩) hlY).trans ey1; have x2 := (hb3.cell (p := ⟨w.heap.size, 2, none⟩) hlY).trans ey2; have x3 := (hb3.cell (p := ⟨w.heap.size, 3, none⟩) hlY).trans ey3; have x4 := (hb3.cell (p := ⟨w.heap.size, 4, none⟩) hlY).trans ey4; have x5 := (hb3.cell (p := ⟨w.heap.size, 5, none⟩) hlY).trans ey5; have x6 := (hb3.cell (p := ⟨w.heap.size, 6, none⟩) hlY).trans ey6; have x7 := (hb3.cell (p := ⟨w.heap.size, 7, none⟩) hlY).trans ey7; have x8 := (hb3.cell (p := ⟨w.heap.size, 8, none⟩) hlY).trans ey8; have x9 := (hb3.cell (p := ⟨w.heap.size, 9, none⟩) hlY).trans ey9))
            go_wp2_with fail
            go_ret2
            exact ⟨hbY.trans (hb3.mono hbY.size), .inl ⟨d, HN.out, by rw [HV.out]; rfl⟩⟩
          · have HN := Lib.hid (show boS s = none by rw [HDO.out]; simp [hsz])
            have q116 : decide ((tx.size : Int) ≤ 120) = false := by simp; omega
            clear hsz
            go_wp2_with fail
            go_region_held3 (fun w' => w'.cell? ⟨w.heap.size, 0, none⟩ = some (.int .i64 s.kind) ∧ w'.cell? ⟨w.heap.size, 1, none⟩ = some (.string s.name) ∧ w'.cell? ⟨w.heap.size, 2, none⟩ = some (.int .i64 s.e.kind) ∧ w'.cell? ⟨w.heap.size, 3, none⟩ = some (.int .i64 s.e.n) ∧ w'.cell? ⟨w.heap.size, 4, none⟩ = some (.string s.e.s) ∧ w'.cell? ⟨w.heap.size, 5, none⟩ = some (.slice A1 s.e.kids.length c1) ∧ w'.cell? ⟨w.heap.size, 6, none⟩ = some (.int .i64 s.t.kind) ∧ w'.cell? ⟨w.heap.size, 7, none⟩ = some (.int .i64 s.t.n) ∧ w'.cell? ⟨w.heap.size, 8, none⟩ = some (.string s.t.s) ∧ w'.cell? ⟨w.heap.size, 9, none⟩ = some (.slice A2 s.t.kids.length c2))
              (first | exact ⟨x0, x1, x2, x3, x4, x5, x6, x7, x8, x9⟩ | exact ⟨y0, y1, y2, y3, y4, y5, y6, y7, y8, y9⟩ | exact ⟨z0, z1, z2, z3, z4, z5, z6, z7, z8, z9⟩ | exact ⟨(cell_drew0 _ _).trans ey0, (cell_drew0 _ _).trans ey1, (cell_drew0 _ _).trans ey2, (cell_drew0 _ _).trans ey3, (cell_drew0 _ _).trans ey4, (cell_drew0 _ _).trans ey5, (cell_drew0 _ _).trans ey6, (cell_drew0 _ _).trans ey7, (cell_drew0 _ _).trans ey8, (cell_drew0 _ _).trans ey9⟩)
              (first | (refine (HST.out _).mono ?_; rintro r w1 ⟨X1, k1, X2, k2, mid, rfl, hk1, hk2, hO1, hO2, hmid, hb1'⟩; have hb1 : Below Y.heap.size Y w1 := (Below.refl _ Y).drew.trans hb1'; have z0 := (hb1.cell (p := ⟨w.heap.size, 0, none⟩) hlY).trans ey0; have z1 := (hb1.cell (p := ⟨w.heap.size, 1, none⟩) hlY).trans ey1; have z2 := (hb1.cell (p := ⟨w.heap.size, 2, none⟩) hlY).trans ey2; have z3 := (hb1.cell (p := ⟨w.heap.size, 3, none⟩) hlY).trans ey3; have z4 := (hb1.cell (p := ⟨w.heap.size, 4, none⟩) hlY).trans ey4; have z5 := (hb1.cell (p := ⟨w.heap.size, 5, none⟩) hlY).trans ey5; have z6 := (hb1.cell (p := ⟨w.heap.size, 6, none⟩) hlY).trans ey6; have z7 := (hb1.cell (p := ⟨w.heap.size, 7, none⟩) hlY).trans ey7; have z8 := (hb1.cell (p := ⟨w.heap.size, 8, none⟩) hlY).trans ey8; have z9 := (hb1.cell (p := ⟨w.heap.size, 9, none⟩) hlY).trans ey9; have KA := HOU.out w1 _ _ _ X1 hO1 hmid; have KB := HOU.out w1 _ _ _ X2 hO2 (Nat.le_refl _)) | (go_at_call 30; refine (HSS.out _ X1 X2 k1 k2 hb1 KA KB hk1 hk2).mono ?_; rintro r w2 ⟨rfl, hb2'⟩; have hb2 : Below Y.heap.size Y w2 := hb1.trans (hb2'.mono hb1.size); have y0 := (hb2.cell (p := ⟨w.heap.size, 0, none⟩) hlY).trans ey0; have y1 := (hb2.cell (p := ⟨w.heap.size, 1, none⟩) hlY).trans ey1; have y2 := (hb2.cell (p := ⟨w.heap.size, 2, none⟩) hlY).trans ey2; have y3 := (hb2.cell (p := ⟨w.heap.size, 3, none⟩) hlY).trans ey3; have y4 := (hb2.cell (p := ⟨w.heap.size, 4, none⟩) hlY).trans ey4; have y5 := (hb2.cell (p := ⟨w.heap.size, 5, none⟩) hlY).trans ey5; have y6 := (hb2.cell (p := ⟨w.heap.size, 6, none⟩) hlY).trans ey6; have y7 := (hb2.cell (p := ⟨w.heap.size, 7, none⟩) hlY).trans ey7; have y8 := (hb2.cell (p := ⟨w.heap.size, 8, none⟩) hlY).trans ey8; have y9 := (hb2.cell (p := ⟨w.heap.size, 9, none⟩) hlY).trans ey9) | (go_at_call 68; refine (HDT.out _ hb2).mono ?_; rintro r w3 ⟨rfl, hb3'⟩; have hb3 : Below Y.heap.size Y w3 := hb2.trans (hb3'.mono hb2.size); have x0 := (hb3.cell (p := ⟨w.heap.size, 0, none⟩) hlY).trans ey0; have x1 := (hb3.cell (p := ⟨w.heap.size, 1, none⟩) hlY).trans ey1; have x2 := (hb3.cell (p := ⟨w.heap.size, 2, none⟩) hlY).trans ey2; have x3 := (hb3.cell (p := ⟨w.heap.size, 3, none⟩) hlY).trans ey3; have x4 := (hb3.cell (p := ⟨w.heap.size, 4, none⟩) hlY).trans ey4; have x5 := (hb3.cell (p := ⟨w.heap.size, 5, none⟩) hlY).trans ey5; have x6 := (hb3.cell (p := ⟨w.heap.size, 6, none⟩) hlY).trans ey6; have x7 := (hb3.cell (p := ⟨w.heap.size, 7, none⟩) hlY).trans ey7; have x8 := (hb3.cell (p := ⟨w.heap.size, 8, none⟩) hlY).trans ey8; have x9 := (hb3.cell (p := ⟨w.heap.size, 9, none⟩) hlY).trans ey9))
            go_wp2_with fail
            go_ret2
            exact ⟨hbY.trans (hb3.mono hbY.size), .inr ⟨HN.out, _, rfl⟩⟩
  have q1 : (s.kind == 1) = false := by rw [beq_eq_false_iff_ne]; exact hk1
  by_cases hk2 : s.kind = 2
  · have q2 : (s.kind == 2) = true := by rw [beq_iff_eq]; exact hk2
    have q3 : (s.kind == 3) = false := by rw [beq_eq_false_iff_ne]; omega
    have HD1 := Lib.hid (show baS s = (okQ s.e).map (fun p => .prB p) by unfold baS; rw [if_neg hk0, if_neg hk1, if_pos hk2])
    clear hk0 hk1 hk2
    cases hok : okQ s.e with
    | none =>
      have HN := Lib.hid (show boS s = none by unfold boS; rw [HD1.out, hok]; rfl)
      clear hok
      go_wp2_with fail
      go_ret2
      exact ⟨hbX, .inr ⟨HN.out, _, rfl⟩⟩
    | some p =>
      obtain rfl := HV1.out p hok
      obtain ⟨d, hd⟩ : ∃ d, d = Ba.prB p := ⟨_, rfl⟩
      have hdf : d.fine = true := by rw [hd]; exact (okQ_some hok).2
      have HDS := Lib.hid (show baS s = some d by rw [HD1.out, hok, hd]; rfl)
      have HVD := Lib.hid (show Value.iface 191 (.agg #[partV p]) = .iface (baT d) (baU d) by rw [hd]; rfl)
      obtain ⟨tp, up, hpv⟩ := partV_lt p
      rw [hpv] at HVD ⊢
      clear hd hok HD1 hpv
      go_wp2_with fail
      rw [HVD.out]
      have HST := Lib.hid (fun V => bareln_any d V)
      have HDT := Lib.hid (fun (V : World) (hV : Below X.heap.size X V) => bareText_any d hdf V (HL.out.below (hbX.trans (hV.mono hbX.size))))
      have HSS := Lib.hid (fun (V : World) (X1 X2 : Option Addr) (k1 k2 : Nat) (hV : Below X.heap.size X V) (h1 : KidsU V V.heap.size X1 d.br.e.kids) (h2 : KidsU V V.heap.size X2 d.br.t.kids) (h3 : d.br.e.kids.length ≤ k1) (h4 : d.br.t.kids.length ≤ k2) =>
        bareSame_any d.br s X1 X2 A1 A2 k1 k2 c1 c2 V.heap.size V h1 h2 ((HA1.out.keep ((hbX.trans (hV.mono hbX.size)).mono hB)).wide (Nat.le_trans hB (Nat.le_trans hbX.size hV.size))) ((HA2.out.keep ((hbX.trans (hV.mono hbX.size)).mono hB)).wide (Nat.le_trans hB (Nat.le_trans hbX.size hV.size))) h3 h4 hc1 hc2 (Nat.le_refl _) (br_small hdf))
      have HOU := Lib.hid (fun (V : World) (lo hi : Nat) (x : Ex) (A : Option Addr) (h : OwnE V x lo hi A) (hh : hi ≤ V.heap.size) => own_kidsU x lo hi A V.heap.size h hh)
      obtain ⟨m1, n1, j1⟩ := meth_bareln d
      have HDO := Lib.hid (show boS s = if sameB d.br s = true ∧ d.text.size ≤ 120 then some d else none by unfold boS; rw [HDS.out]; rfl)
      have htx : d.text.size ≤ 2 ^ 40 := btext_small hdf
      unfold baV at HDT
      unfold GivesBr brV at HST
      have HV := Lib.hid (show baV d = .iface (baT d) (baU d) from rfl)
      generalize d.text = tx at *
      generalize d.br = ds at *
      generalize baT d = t1 at *
      generalize baU d = u1 at *
      generalize fBareLn d = f1 at *
      clear hdf
      cases hsm : sameB ds s with
      | false =>
        rw [hsm] at HDO
        have HN := Lib.hid (show boS s = none by rw [HDO.out]; simp)
        have HSM := Lib.hid hsm
        simp only [hsm] at HSS
        clear hsm
        go_wp2_with fail
        refine wp_region_noPanic ?_
        refine wp_region_held_drew (S := (fun w' => w'.cell? ⟨w.heap.size, 0, none⟩ = some (.int .i64 s.kind) ∧ w'.cell? ⟨w.heap.size, 1, none⟩ = some (.string s.name) ∧ w'.cell? ⟨w.heap.size, 2, none⟩ = some (.int .i64 s.e.kind) ∧ w'.cell? ⟨w.heap.size, 3, none⟩ = some (.int .i64 s.e.n) ∧ w'.cell? ⟨w.heap.size, 4, none⟩ = some (.string s.e.s) ∧ w'.cell? ⟨w.heap.size, 5, none⟩ = some (.slice A1 s.e.kids.length c1) ∧ w'.cell? ⟨w.heap.size, 6, none⟩ = some (.int .i64 s.t.kind) ∧ w'.cell? ⟨w.heap.size, 7, none⟩ = some (.int .i64 s.t.n) ∧ w'.cell? ⟨w.heap.size, 8, none⟩ = some (.string s.t.s) ∧ w'.cell? ⟨w.heap.size, 9, none⟩ = some (.slice A2 s.t.kids.length c2))) (by kernel_rfl) (by exact ⟨e0, e1, e2, e3, e4, e5, e6, e7, e8, e9⟩) (fun hHeld => ?_)
        refine wpAnyH_take (i := 0) (v := ?valF0T3) rfl (by kernel_rfl) (by kernel_rfl) (by kernel_rfl) (fun _ _ _ h => h) (Or.inl ⟨by rfl, ?yieF0T3⟩) (by assumption) ?resF0T3
        case yieF0T3 =>
          intro w hSw
          try dsimp only at hSw
          try obtain ⟨s0, s1, s2, s3, s4, s5, s6, s7, s8, s9⟩ := hSw
          go_simp
          try with_reducible rfl
        try simp only [Act.put, List.setIfInBounds_toArray, List.set_cons_zero, List.set_cons_succ, List.getElem_toArray, List.getElem_cons_zero, List.getElem_cons_succ]
        refine wpAnyH_take (i := 1) (v := ?valF1T3) rfl (by kernel_rfl) (by kernel_rfl) (by kernel_rfl) (fun _ _ _ h => h) (Or.inl ⟨by rfl, ?yieF1T3⟩) (by assumption) ?resF1T3
        case yieF1T3 =>
          intro w hSw
          try dsimp only at hSw
          try obtain ⟨s0, s1, s2, s3, s4, s5, s6, s7, s8, s9⟩ := hSw
          go_simp
          try with_reducible rfl
        try simp only [Act.put, List.setIfInBounds_toArray, List.set_cons_zero, List.set_cons_succ, List.getElem_toArray, List.getElem_cons_zero, List.getElem_cons_succ]
        refine wpAnyH_take (i := 3) (v := ?valF3T3) rfl (by kernel_rfl) (by kernel_rfl) (by kernel_rfl) (fun _ _ _ h => h) (Or.inl ⟨by rfl, ?yieF3T3⟩) (by assumption) ?resF3T3
        case yieF3T3 =>
          intro w hSw
          try dsimp only at hSw
          try obtain ⟨s0, s1, s2, s3, s4, s5, s6, s7, s8, s9⟩ := hSw
          go_simp
          try with_reducible rfl
        try simp only [Act.put, List.setIfInBounds_toArray, List.set_cons_zero, List.set_cons_succ, List.getElem_toArray, List.getElem_cons_zero, List.getElem_cons_succ]
        refine wpAnyH_ready (rs := [2]) (by kernel_rfl) (by simp) ?_
        refine AllReadyH.cons rfl (fun K hK => ?_) AllReadyH.nil
        go_simp
        refine (HST.out _).mono ?_
        rintro r w1 ⟨X1, k1, X2, k2, mid, rfl, hk1, hk2, hO1, hO2, hmid, hb1'⟩; have hb1 : Below X.heap.size X w1 := (Below.refl _ X).drew.trans hb1'; have z0 := (hb1.cell (p := ⟨w.heap.size, 0, none⟩) hlX).trans e0; have z1 := (hb1.cell (p := ⟨w.heap.size, 1, none⟩) hlX).trans e1; have z2 := (hb1.cell (p := ⟨w.heap.size, 2, none⟩) hlX).trans e2; have z3 := (hb1.cell (p := ⟨w.heap.size, 3, none⟩) hlX).trans e3; have z4 := (hb1.cell (p := ⟨w.heap.size, 4, none⟩) hlX).trans e4; have z5 := (hb1.cell (p := ⟨w.heap.size, 5, none⟩) hlX).trans e5; have z6 := (hb1.cell (p := ⟨w.heap.size, 6, none⟩) hlX).trans e6; have z7 := (hb1.cell (p := ⟨w.heap.size, 7, none⟩) hlX).trans e7; have z8 := (hb1.cell (p := ⟨w.heap.size, 8, none⟩) hlX).trans e8; have z9 := (hb1.cell (p := ⟨w.heap.size, 9, none⟩) hlX).trans e9; have KA := HOU.out w1 _ _ _ X1 hO1 hmid; have KB := HOU.out w1 _ _ _ X2 hO2 (Nat.le_refl _)
        go_wp2_with fail
        refine hK.out _ _ (by exact ⟨z0, z1, z2, z3, z4, z5, z6, z7, z8, z9⟩) (fun hHeld => ?_)
        clear hK K
        try simp only [Act.put, List.setIfInBounds_toArray, List.set_cons_zero, List.set_cons_succ, List.getElem_toArray, List.getElem_cons_zero, List.getElem_cons_succ]
        refine wpAnyH_ready (rs := [4]) (by kernel_rfl) (by simp) ?_
        refine AllReadyH.cons rfl (fun K hK => ?_) AllReadyH.nil
        go_simp
        refine (HSS.out _ X1 X2 k1 k2 hb1 KA KB hk1 hk2).mono ?_
        rintro r w2 ⟨rfl, hb2'⟩; have hb2 : Below X.heap.size X w2 := hb1.trans (hb2'.mono hb1.size); have y0 := (hb2.cell (p := ⟨w.heap.size, 0, none⟩) hlX).trans e0; have y1 := (hb2.cell (p := ⟨w.heap.size, 1, none⟩) hlX).trans e1; have y2 := (hb2.cell (p := ⟨w.heap.size, 2, none⟩) hlX).trans e2; have y3 := (hb2.cell (p := ⟨w.heap.size, 3, none⟩) hlX).trans e3; have y4 := (hb2.cell (p := ⟨w.heap.size, 4, none⟩) hlX).trans e4; have y5 := (hb2.cell (p := ⟨w.heap.size, 5, none⟩) hlX).trans e5; have y6 := (hb2.cell (p := ⟨w.heap.size, 6, none⟩) hlX).trans e6; have y7 := (hb2.cell (p := ⟨w.heap.size, 7, none⟩) hlX).trans e7; have y8 := (hb2.cell (p := ⟨w.heap.size, 8, none⟩) hlX).trans e8; have y9 := (hb2.cell (p := ⟨w.heap.size, 9, none⟩) hlX).trans e9
        go_wp2_with fail
        refine hK.out _ _ (by exact ⟨y0, y1, y2, y3, y4, y5, y6, y7, y8, y9⟩) (fun hHeld => ?_)
        clear hK K
        try simp only [Act.put, List.setIfInBounds_toArray, List.set_cons_zero, List.set_cons_succ, List.getElem_toArray, List.getElem_cons_zero, List.getElem_cons_succ]
        refine wpAnyH_take (i := 5) (v := ?valF5T3) rfl (by kernel_rfl) (by kernel_rfl) (by kernel_rfl) (fun _ _ _ h => h) (Or.inl ⟨by rfl, ?yieF5T3⟩) (by assumption) ?resF5T3
        case yieF5T3 =>
          intro w hSw
          try dsimp only at hSw
          try obtain ⟨s0, s1, s2, s3, s4, s5, s6, s7, s8, s9⟩ := hSw
          go_simp
          try with_reducible rfl
        try simp only [Act.put, List.setIfInBounds_toArray, List.set_cons_zero, List.set_cons_succ, List.getElem_toArray, List.getElem_cons_zero, List.getElem_cons_succ]
        refine wpAnyH_take (i := 6) (v := undef) rfl (by kernel_rfl) (by kernel_rfl) (by kernel_rfl) (fun _ _ _ h => h) (Or.inr ⟨by rfl, rfl⟩) (by assumption) ?_
        try simp only [Act.put, List.setIfInBounds_toArray, List.set_cons_zero, List.set_cons_succ, List.getElem_toArray, List.getElem_cons_zero, List.getElem_cons_succ]
        refine wpAnyH_take (i := 7) (v := undef) rfl (by kernel_rfl) (by kernel_rfl) (by kernel_rfl) (fun _ _ _ h => h) (Or.inr ⟨by rfl, rfl⟩) (by assumption) ?_
        try simp only [Act.put, List.setIfInBounds_toArray, List.set_cons_zero, List.set_cons_succ, List.getElem_toArray, List.getElem_cons_zero, List.getElem_cons_succ]
        refine wpAnyH_take (i := 8) (v := undef) rfl (by kernel_rfl) (by kernel_rfl) (by kernel_rfl) (fun _ _ _ h => h) (Or.inr ⟨by rfl, rfl⟩) (by assumption) ?_
        try simp only [Act.put, List.setIfInBounds_toArray, List.set_cons_zero, List.set_cons_succ, List.getElem_toArray, List.getElem_cons_zero, List.getElem_cons_succ]
        refine wpAnyH_take (i := 9) (v := undef) rfl (by kernel_rfl) (by kernel_rfl) (by kernel_rfl) (fun _ _ _ h => h) (Or.inr ⟨by rfl, rfl⟩) (by assumption) ?_
        try simp only [Act.put, List.setIfInBounds_toArray, List.set_cons_zero, List.set_cons_succ, List.getElem_toArray, List.getElem_cons_zero, List.getElem_cons_succ]
        refine wpAnyH_take (i := 10) (v := ?valF10T3) rfl (by kernel_rfl) (by kernel_rfl) (by kernel_rfl) (fun _ _ _ h => h) (Or.inl ⟨by rfl, ?yieF10T3⟩) (by assumption) ?resF10T3
        case yieF10T3 =>
          intro w hSw
          try dsimp only at hSw
          try obtain ⟨s0, s1, s2, s3, s4, s5, s6, s7, s8, s9⟩ := hSw
          go_simp
          try with_reducible rfl
        try simp only [Act.put, List.setIfInBounds_toArray, List.set_cons_zero, List.set_cons_succ, List.getElem_toArray, List.getElem_cons_zero, List.getElem_cons_succ]
        refine wpAnyH_take (i := 11) (v := ?valF11T3) rfl (by kernel_rfl) (by kernel_rfl) (by kernel_rfl) (fun _ _ _ h => h) (Or.inl ⟨by rfl, ?yieF11T3⟩) (by assumption) ?resF11T3
        case yieF11T3 =>
          intro w hSw
          try dsimp only at hSw
          try obtain ⟨s0, s1, s2, s3, s4, s5, s6, s7, s8, s9⟩ := hSw
          go_simp
          try with_reducible rfl
        try simp only [Act.put, List.setIfInBounds_toArray, List.set_cons_zero, List.set_cons_succ, List.getElem_toArray, List.getElem_cons_zero, List.getElem_cons_succ]
        refine wpAnyH_take (i := 12) (v := ?valF12T3) rfl (by kernel_rfl) (by kernel_rfl) (by kernel_rfl) (fun _ _ _ h => h) (Or.inl ⟨by rfl, ?yieF12T3⟩) (by assumption) ?resF12T3
        case yieF12T3 =>
          intro w hSw
          try dsimp only at hSw
          try obtain ⟨s0, s1, s2, s3, s4, s5, s6, s7, s8, s9⟩ := hSw
          go_simp
          try with_reducible rfl
        try simp only [Act.put, List.setIfInBounds_toArray, List.set_cons_zero, List.set_cons_succ, List.getElem_toArray, List.getElem_cons_zero, List.getElem_cons_succ]
        refine wpAnyH_done (by kernel_rfl) ?_ _
        refine NoPanic.normal ?_
        all_goals (try go_wp2_with fail)
        go_ret2
        exact ⟨hbX.trans (hb2.mono hbX.size), .inr ⟨HN.out, _, rfl⟩⟩
      | true =>
        rw [hsm] at HDO
        have HSM := Lib.hid hsm
        simp only [hsm] at HSS
        clear hsm
        by_cases hsz : tx.size ≤ 120
        · have HN := Lib.hid (show boS s = some d by rw [HDO.out]; simp [hsz])
          have q116 : decide ((tx.size : Int) ≤ 120) = true := by simp; omega
          clear hsz
          go_wp2_with fail
          go_region_held3 (fun w' => w'.cell? ⟨w.heap.size, 0, none⟩ = some (.int .i64 s.kind) ∧ w'.cell? ⟨w.heap.size, 1, none⟩ = some (.string s.name) ∧ w'.cell? ⟨w.heap.size, 2, none⟩ = some (.int .i64 s.e.kind) ∧ w'.cell? ⟨w.heap.size, 3, none⟩ = some (.int .i64 s.e.n) ∧ w'.cell? ⟨w.heap.size, 4, none⟩ = some (.string s.e.s) ∧ w'.cell? ⟨w.heap.size, 5, none⟩ = some (.slice A1 s.e.kids.length c1) ∧ w'.cell? ⟨w.heap.size, 6, none⟩ = some (.int .i64 s.t.kind) ∧ w'.cell? ⟨w.heap.size, 7, none⟩ = some (.int .i64 s.t.n) ∧ w'.cell? ⟨w.heap.size, 8, none⟩ = some (.string s.t.s) ∧ w'.cell? ⟨w.heap.size, 9, none⟩ = some (.slice A2 s.t.kids.length c2))
            (first | exact ⟨x0, x1, x2, x3, x4, x5, x6, x7, x8, x9⟩ | exact ⟨y0, y1, y2, y3, y4, y5, y6, y7, y8, y9⟩ | exact ⟨z0, z1, z2, z3, z4, z5, z6, z7, z8, z9⟩ | exact ⟨(cell_drew0 _ _).trans e0, (cell_drew0 _ _).trans e1, (cell_drew0 _ _).trans e2, (cell_drew0 _ _).trans e3, (cell_drew0 _ _).trans e4, (cell_drew0 _ _).trans e5, (cell_drew0 _ _).trans e6, (cell_drew0 _ _).trans e7, (cell_drew0 _ _).trans e8, (cell_drew0 _ _).trans e9⟩)
            (first | (refine (HST.out _).mono ?_; rintro r w1 ⟨X1, k1, X2, k2, mid, rfl, hk1, hk2, hO1, hO2, hmid, hb1'⟩; have hb1 : Below X.heap.size X w1 := (Below.refl _ X).drew.trans hb1'; have z0 := (hb1.cell (p := ⟨w.heap.size, 0, none⟩) hlX).trans e0; have z1 := (hb1.cell (p := ⟨w.heap.size, 1, none⟩) hlX).trans e1; have z2 := (hb1.cell (p := ⟨w.heap.size, 2, none⟩) hlX).trans e2; have z3 := (hb1.cell (p := ⟨w.heap.size, 3, none⟩) hlX).trans e3; have z4 := (hb1.cell (p := ⟨w.heap.size, 4, none⟩) hlX).trans e4; have z5 := (hb1.cell (p := ⟨w.heap.size, 5, none⟩) hlX).trans e5; have z6 := (hb1.cell (p := ⟨w.heap.size, 6, none⟩) hlX).trans e6; have z7 := (hb1.cell (p := ⟨w.heap.size, 7, none⟩) hlX).trans e7; have z8 := (hb1.cell (p := ⟨w.heap.size, 8, none⟩) hlX).trans e8; have z9 := (hb1.cell (p := ⟨w.heap.size, 9, none⟩) hlX).trans e9; have KA := HOU.out w1 _ _ _ X1 hO1 hmid; have KB := HOU.out w1 _ _ _ X2 hO2 (Nat.le_refl _)) | (go_at_call 30; refine (HSS.out _ X1 X2 k1 k2 hb1 KA KB hk1 hk2).mono ?_; rintro r w2 ⟨rfl, hb2'⟩; have hb2 : Below X.heap.size X w2 := hb1.trans (hb2'.mono hb1.size); have y0 := (hb2.cell (p := ⟨w.heap.size, 0, none⟩) hlX).trans e0; have y1 := (hb2.cell (p := ⟨w.heap.size, 1, none⟩) hlX).trans e1; have y2 := (hb2.cell (p := ⟨w.heap.size, 2, none⟩) hlX).trans e2; have y3 := (hb2.cell (p := ⟨w.heap.size, 3, none⟩) hlX).trans e3; have y4 := (hb2.cell (p := ⟨w.heap.size, 4, none⟩) hlX).trans e4; have y5 := (hb2.cell (p := ⟨w.heap.size, 5, none⟩) hlX).trans e5; have y6 := (hb2.cell (p := ⟨w.heap.size, 6, none⟩) hlX).trans e6; have y7 := (hb2.cell (p := ⟨w.heap.size, 7, none⟩) hlX).trans e7; have y8 := (hb2.cell (p := ⟨w.heap.size, 8, none⟩) hlX).trans e8; have y9 := (hb2.cell (p := ⟨w.heap.size, 9, none⟩) hlX).trans e9) | (go_at_call 68; refine (HDT.out _ hb2).mono ?_; rintro r w3 ⟨rfl, hb3'⟩; have hb3 : Below X.heap.size X w3 := hb2.trans (hb3'.mono hb2.size); have x0 := (hb3.cell (p := ⟨w.heap.size, 0, none⟩) hlX).trans e0; have x1 := (hb3.cell (p := ⟨w.heap.size, 1, none⟩) hlX).trans e1; have x2 := (hb3.cell (p := ⟨w.heap.size, 2, none⟩) hlX).trans e2; have x3 := (hb3.cell (p := ⟨w.heap.size, 3, none⟩) hlX).trans e3; have x4 := (hb3.cell (p := ⟨w.heap.size, 4, none⟩) hlX).trans e4; have x5 := (hb3.cell (p := ⟨w.heap.size, 5, none⟩) hlX).trans e5; have x6 := (hb3.cell (p := ⟨w.heap.size, 6, none⟩) hlX).trans e6; have x7 := (hb3.cell (p := ⟨w.heap.size, 7, none⟩) hlX).trans e7; have x8 := (hb3.cell (p := ⟨w.heap.size, 8, none⟩) hlX).trans e8; have x9 := (hb3.cell (p := ⟨w.heap.size, 9, none⟩) hlX).trans e9))
          go_wp2_with fail
          go_ret2
          exact ⟨hbX.trans (hb3.mono hbX.size), .inl ⟨d, HN.out, by rw [HV.out]; rfl⟩⟩
        · have HN := Lib.hid (show boS s = none by rw [HDO.out]; simp [hsz])
          have q116 : decide ((tx.size : Int) ≤ 120) = false := by simp; omega
          clear hsz
          go_wp2_with fail
          go_region_held3 (fun w' => w'.cell? ⟨w.heap.size, 0, none⟩ = some (.int .i64 s.kind) ∧ w'.cell? ⟨w.heap.size, 1, none⟩ = some (.string s.name) ∧ w'.cell? ⟨w.heap.size, 2, none⟩ = some (.int .i64 s.e.kind) ∧ w'.cell? ⟨w.heap.size, 3, none⟩ = some (.int .i64 s.e.n) ∧ w'.cell? ⟨w.heap.size, 4, none⟩ = some (.string s.e.s) ∧ w'.cell? ⟨w.heap.size, 5, none⟩ = some (.slice A1 s.e.kids.length c1) ∧ w'.cell? ⟨w.heap.size, 6, none⟩ = some (.int .i64 s.t.kind) ∧ w'.cell? ⟨w.heap.size, 7, none⟩ = some (.int .i64 s.t.n) ∧ w'.cell? ⟨w.heap.size, 8, none⟩ = some (.string s.t.s) ∧ w'.cell? ⟨w.heap.size, 9, none⟩ = some (.slice A2 s.t.kids.length c2))
            (first | exact ⟨x0, x1, x2, x3, x4, x5, x6, x7, x8, x9⟩ | exact ⟨y0, y1, y2, y3, y4, y5, y6, y7, y8, y9⟩ | exact ⟨z0, z1, z2, z3, z4, z5, z6, z7, z8, z9⟩ | exact ⟨(cell_drew0 _ _).trans e0, (cell_drew0 _ _).trans e1, (cell_drew0 _ _).trans e2, (cell_drew0 _ _).trans e3, (cell_drew0 _ _).trans e4, (cell_drew0 _ _).trans e5, (cell_drew0 _ _).trans e6, (cell_drew0 _ _).trans e7, (cell_drew0 _ _).trans e8, (cell_drew0 _ _).trans e9⟩)
            (first | (refine (HST.out _).mono ?_; rintro r w1 ⟨X1, k1, X2, k2, mid, rfl, hk1, hk2, hO1, hO2, hmid, hb1'⟩; have hb1 : Below X.heap.size X w1 := (Below.refl _ X).drew.trans hb1'; have z0 := (hb1.cell (p := ⟨w.heap.size, 0, none⟩) hlX).trans e0; have z1 := (hb1.cell (p := ⟨w.heap.size, 1, none⟩) hlX).trans e1; have z2 := (hb1.cell (p := ⟨w.heap.size, 2, none⟩) hlX).trans e2; have z3 := (hb1.cell (p := ⟨w.heap.size, 3, none⟩) hlX).trans e3; have z4 := (hb1.cell (p := ⟨w.heap.size, 4, none⟩) hlX).trans e4; have z5 := (hb1.cell (p := ⟨w.heap.size, 5, none⟩) hlX).trans e5; have z6 := (hb1.cell (p := ⟨w.heap.size, 6, none⟩) hlX).trans e6; have z7 := (hb1.cell (p := ⟨w.heap.size, 7, none⟩) hlX).trans e7; have z8 := (hb1.cell (p := ⟨w.heap.size, 8, none⟩) hlX).trans e8; have z9 := (hb1.cell (p := ⟨w.heap.size, 9, none⟩) hlX).trans e9; have KA := HOU.out w1 _ _ _ X1 hO1 hmid; have KB := HOU.out w1 _ _ _ X2 hO2 (Nat.le_refl _)) | (go_at_call 30; refine (HSS.out _ X1 X2 k1 k2 hb1 KA KB hk1 hk2).mono ?_; rintro r w2 ⟨rfl, hb2'⟩; have hb2 : Below X.heap.size X w2 := hb1.trans (hb2'.mono hb1.size); have y0 := (hb2.cell (p := ⟨w.heap.size, 0, none⟩) hlX).trans e0; have y1 := (hb2.cell (p := ⟨w.heap.size, 1, none⟩) hlX).trans e1; have y2 := (hb2.cell (p := ⟨w.heap.size, 2, none⟩) hlX).trans e2; have y3 := (hb2.cell (p := ⟨w.heap.size, 3, none⟩) hlX).trans e3; have y4 := (hb2.cell (p := ⟨w.heap.size, 4, none⟩) hlX).trans e4; have y5 := (hb2.cell (p := ⟨w.heap.size, 5, none⟩) hlX).trans e5; have y6 := (hb2.cell (p := ⟨w.heap.size, 6, none⟩) hlX).trans e6; have y7 := (hb2.cell (p := ⟨w.heap.size, 7, none⟩) hlX).trans e7; have y8 := (hb2.cell (p := ⟨w.heap.size, 8, none⟩) hlX).trans e8; have y9 := (hb2.cell (p := ⟨w.heap.size, 9, none⟩) hlX).trans e9) | (go_at_call 68; refine (HDT.out _ hb2).mono ?_; rintro r w3 ⟨rfl, hb3'⟩; have hb3 : Below X.heap.size X w3 := hb2.trans (hb3'.mono hb2.size); have x0 := (hb3.cell (p := ⟨w.heap.size, 0, none⟩) hlX).trans e0; have x1 := (hb3.cell (p := ⟨w.heap.size, 1, none⟩) hlX).trans e1; have x2 := (hb3.cell (p := ⟨w.heap.size, 2, none⟩) hlX).trans e2; have x3 := (hb3.cell (p := ⟨w.heap.size, 3, none⟩) hlX).trans e3; have x4 := (hb3.cell (p := ⟨w.heap.size, 4, none⟩) hlX).trans e4; have x5 := (hb3.cell (p := ⟨w.heap.size, 5, none⟩) hlX).trans e5; have x6 := (hb3.cell (p := ⟨w.heap.size, 6, none⟩) hlX).trans e6; have x7 := (hb3.cell (p := ⟨w.heap.size, 7, none⟩) hlX).trans e7; have x8 := (hb3.cell (p := ⟨w.heap.size, 8, none⟩) hlX).trans e8; have x9 := (hb3.cell (p := ⟨w.heap.size, 9, none⟩) hlX).trans e9))
          go_wp2_with fail
          go_ret2
          exact ⟨hbX.trans (hb3.mono hbX.size), .inr ⟨HN.out, _, rfl⟩⟩
  have q2 : (s.kind == 2) = false := by rw [beq_eq_false_iff_ne]; exact hk2
  by_cases hk3 : s.kind = 3
  · have q3 : (s.kind == 3) = true := by rw [beq_iff_eq]; exact hk3
    have HD1 := Lib.hid (show baS s = (okQ s.e).bind (fun p => (okQ s.t).map (fun q => .ifB p q)) by unfold baS; rw [if_neg hk0, if_neg hk1, if_neg hk2, if_pos hk3])
    clear hk0 hk1 hk2 hk3
    cases hok : okQ s.e with
    | none =>
      have HN := Lib.hid (show boS s = none by unfold boS; rw [HD1.out, hok]; rfl)
      clear hok
      go_wp2_with fail
      go_ret2
      exact ⟨hbX, .inr ⟨HN.out, _, rfl⟩⟩
    | some p =>
      obtain rfl := HV1.out p hok
      cases hok2 : okQ s.t with
      | none =>
        have HN := Lib.hid (show boS s = none by unfold boS; rw [HD1.out, hok]; simp [hok2])
        clear hok hok2
        go_wp2_with fail
        go_ret2
        exact ⟨hbX, .inr ⟨HN.out, _, rfl⟩⟩
      | some q =>
        obtain rfl := HV2.out q hok2
        obtain ⟨d, hd⟩ : ∃ d, d = Ba.ifB p q := ⟨_, rfl⟩
        have hdf : d.fine = true := by rw [hd]; simp [Ba.fine, (okQ_some hok).2, (okQ_some hok2).2]
        have HDS := Lib.hid (show baS s = some d by rw [HD1.out, hok, hd]; simp [hok2])
        have HVD := Lib.hid (show Value.iface 193 (.agg #[partV p, partV q]) = .iface (baT d) (baU d) by rw [hd]; rfl)
        obtain ⟨tp, up, hpv⟩ := partV_lt p
        obtain ⟨tq, uq, hqv⟩ := partV_lt q
        rw [hpv, hqv] at HVD ⊢
        clear hd hok hok2 HD1 hpv hqv
        go_wp2_with fail
        rw [HVD.out]
        have HST := Lib.hid (fun V => bareln_any d V)
        have HDT := Lib.hid (fun (V : World) (hV : Below X.heap.size X V) => bareText_any d hdf V (HL.out.below (hbX.trans (hV.mono hbX.size))))
        have HSS := Lib.hid (fun (V : World) (X1 X2 : Option Addr) (k1 k2 : Nat) (hV : Below X.heap.size X V) (h1 : KidsU V V.heap.size X1 d.br.e.kids) (h2 : KidsU V V.heap.size X2 d.br.t.kids) (h3 : d.br.e.kids.length ≤ k1) (h4 : d.br.t.kids.length ≤ k2) =>
          bareSame_any d.br s X1 X2 A1 A2 k1 k2 c1 c2 V.heap.size V h1 h2 ((HA1.out.keep ((hbX.trans (hV.mono hbX.size)).mono hB)).wide (Nat.le_trans hB (Nat.le_trans hbX.size hV.size))) ((HA2.out.keep ((hbX.trans (hV.mono hbX.size)).mono hB)).wide (Nat.le_trans hB (Nat.le_trans hbX.size hV.size))) h3 h4 hc1 hc2 (Nat.le_refl _) (br_small hdf))
        have HOU := Lib.hid (fun (V : World) (lo hi : Nat) (x : Ex) (A : Option Addr) (h : OwnE V x lo hi A) (hh : hi ≤ V.heap.size) => own_kidsU x lo hi A V.heap.size h hh)
        obtain ⟨m1, n1, j1⟩ := meth_bareln d
        have HDO := Lib.hid (show boS s = if sameB d.br s = true ∧ d.text.size ≤ 120 then some d else none by unfold boS; rw [HDS.out]; rfl)
        have htx : d.text.size ≤ 2 ^ 40 := btext_small hdf
        unfold baV at HDT
        unfold GivesBr brV at HST
        have HV := Lib.hid (show baV d = .iface (baT d) (baU d) from rfl)
        generalize d.text = tx at *
        generalize d.br = ds at *
        generalize baT d = t1 at *
        generalize baU d = u1 at *
        generalize fBareLn d = f1 at *
        clear hdf
        cases hsm : sameB ds s with
        | false =>
          rw [hsm] at HDO
          have HN := Lib.hid (show boS s = none by rw [HDO.out]; simp)
          have HSM := Lib.hid hsm
          simp only [hsm] at HSS
          clear hsm
          go_wp2_with fail
          refine wp_region_noPanic ?_
          refine wp_region_held_drew (S := (fun w' => w'.cell? ⟨w.heap.size, 0, none⟩ = some (.int .i64 s.kind) ∧ w'.cell? ⟨w.heap.size, 1, none⟩ = some (.string s.name) ∧ w'.cell? ⟨w.heap.size, 2, none⟩ = some (.int .i64 s.e.kind) ∧ w'.cell? ⟨w.heap.size, 3, none⟩ = some (.int .i64 s.e.n) ∧ w'.cell? ⟨w.heap.size, 4, none⟩ = some (.string s.e.s) ∧ w'.cell? ⟨w.heap.size, 5, none⟩ = some (.slice A1 s.e.kids.length c1) ∧ w'.cell? ⟨w.heap.size, 6, none⟩ = some (.int .i64 s.t.kind) ∧ w'.cell? ⟨w.heap.size, 7, none⟩ = some (.int .i64 s.t.n) ∧ w'.cell? ⟨w.heap.size, 8, none⟩ = some (.string s.t.s) ∧ w'.cell? ⟨w.heap.size, 9, none⟩ = some (.slice A2 s.t.kids.length c2))) (by kernel_rfl) (by exact ⟨e0, e1, e2, e3, e4, e5, e6, e7, e8, e9⟩) (fun hHeld => ?_)
          refine wpAnyH_take (i := 0) (v := ?valF0T4) rfl (by kernel_rfl) (by kernel_rfl) (by kernel_rfl) (fun _ _ _ h => h) (Or.inl ⟨by rfl, ?yieF0T4⟩) (by assumption) ?resF0T4
          case yieF0T4 =>
            intro w hSw
            try dsimp only at hSw
            try obtain ⟨s0, s1, s2, s3, s4, s5, s6, s7, s8, s9⟩ := hSw
            go_simp
            try with_reducible rfl
          try simp only [Act.put, List.setIfInBounds_toArray, List.set_cons_zero, List.set_cons_succ, List.getElem_toArray, List.getElem_cons_zero, List.getElem_cons_succ]
          refine wpAnyH_take (i := 1) (v := ?valF1T4) rfl (by kernel_rfl) (by kernel_rfl) (by kernel_rfl) (fun _ _ _ h => h) (Or.inl ⟨by rfl, ?yieF1T4⟩) (by assumption) ?resF1T4
          case yieF1T4 =>
            intro w hSw
            try dsimp only at hSw
            try obtain ⟨s0, s1, s2, s3, s4, s5, s6, s7, s8, s9⟩ := hSw
            go_simp
            try with_reducible rfl
          try simp only [Act.put, List.setIfInBounds_toArray, List.set_cons_zero, List.set_cons_succ, List.getElem_toArray, List.getElem_cons_zero, List.getElem_cons_succ]
          refine wpAnyH_take (i := 3) (v := ?valF3T4) rfl (by kernel_rfl) (by kernel_rfl) (by kernel_rfl) (fun _ _ _ h => h) (Or.inl ⟨by rfl, ?yieF3T4⟩) (by assumption) ?resF3T4
          case yieF3T4 =>
            intro w hSw
            try dsimp only at hSw
            try obtain ⟨s0, s1, s2, s3, s4, s5, s6, s7, s8, s9⟩ := hSw
            go_simp
            try with_reducible rfl
          try simp only [Act.put, List.setIfInBounds_toArray, List.set_cons_zero, List.set_cons_succ, List.getElem_toArray, List.getElem_cons_zero, List.getElem_cons_succ]
          refine wpAnyH_ready (rs := [2]) (by kernel_rfl) (by simp) ?_
          refine AllReadyH.cons rfl (fun K hK => ?_) AllReadyH.nil
          go_simp
          refine (HST.out _).mono ?_
          rintro r w1 ⟨X1, k1, X2, k2, mid, rfl, hk1, hk2, hO1, hO2, hmid, hb1'⟩; have hb1 : Below X.heap.size X w1 := (Below.refl _ X).drew.trans hb1'; have z0 := (hb1.cell (p := ⟨w.heap.size, 0, none⟩) hlX).trans e0; have z1 := (hb1.cell (p := ⟨w.heap.size, 1, none⟩) hlX).trans e1; have z2 := (hb1.cell (p := ⟨w.heap.size, 2, none⟩) hlX).trans e2; have z3 := (hb1.cell (p := ⟨w.heap.size, 3, none⟩) hlX).trans e3; have z4 := (hb1.cell (p := ⟨w.heap.size, 4, none⟩) hlX).trans e4; have z5 := (hb1.cell (p := ⟨w.heap.size, 5, none⟩) hlX).trans e5; have z6 := (hb1.cell (p := ⟨w.heap.size, 6, none⟩) hlX).trans e6; have z7 := (hb1.cell (p := ⟨w.heap.size, 7, none⟩) hlX).trans e7; have z8 := (hb1.cell (p := ⟨w.heap.size, 8, none⟩) hlX).trans e8; have z9 := (hb1.cell (p := ⟨w.heap.size, 9, none⟩) hlX).trans e9; have KA := HOU.out w1 _ _ _ X1 hO1 hmid; have KB := HOU.out w1 _ _ _ X2 hO2 (Nat.le_refl _)
          go_wp2_with fail
          refine hK.out _ _ (by exact ⟨z0, z1, z2, z3, z4, z5, z6, z7, z8, z9⟩) (fun hHeld => ?_)
          clear hK K
          try simp only [Act.put, List.setIfInBounds_toArray, List.set_cons_zero, List.set_cons_succ, List.getElem_toArray, List.getElem_cons_zero, List.getElem_cons_succ]
          refine wpAnyH_ready (rs := [4]) (by kernel_rfl) (by simp) ?_
          refine AllReadyH.cons rfl (fun K hK => ?_) AllReadyH.nil
          go_simp
          refine (HSS.out _ X1 X2 k1 k2 hb1 KA KB hk1 hk2).mono ?_
          rintro r w2 ⟨rfl, hb2'⟩; have hb2 : Below X.heap.size X w2 := hb1.trans (hb2'.mono hb1.size); have y0 := (hb2.cell (p := ⟨w.heap.size, 0, none⟩) hlX).trans e0; have y1 := (hb2.cell (p := ⟨w.heap.size, 1, none⟩) hlX).trans e1; have y2 := (hb2.cell (p := ⟨w.heap.size, 2, none⟩) hlX).trans e2; have y3 := (hb2.cell (p := ⟨w.heap.size, 3, none⟩) hlX).trans e3; have y4 := (hb2.cell (p := ⟨w.heap.size, 4, none⟩) hlX).trans e4; have y5 := (hb2.cell (p := ⟨w.heap.size, 5, none⟩) hlX).trans e5; have y6 := (hb2.cell (p := ⟨w.heap.size, 6, none⟩) hlX).trans e6; have y7 := (hb2.cell (p := ⟨w.heap.size, 7, none⟩) hlX).trans e7; have y8 := (hb2.cell (p := ⟨w.heap.size, 8, none⟩) hlX).trans e8; have y9 := (hb2.cell (p := ⟨w.heap.size, 9, none⟩) hlX).trans e9
          go_wp2_with fail
          refine hK.out _ _ (by exact ⟨y0, y1, y2, y3, y4, y5, y6, y7, y8, y9⟩) (fun hHeld => ?_)
          clear hK K
          try simp only [Act.put, List.setIfInBounds_toArray, List.set_cons_zero, List.set_cons_succ, List.getElem_toArray, List.getElem_cons_zero, List.getElem_cons_succ]
          refine wpAnyH_take (i := 5) (v := ?valF5T4) rfl (by kernel_rfl) (by kernel_rfl) (by kernel_rfl) (fun _ _ _ h => h) (Or.inl ⟨by rfl, ?yieF5T4⟩) (by assumption) ?resF5T4
          case yieF5T4 =>
            intro w hSw
            try dsimp only at hSw
            try obtain ⟨s0, s1, s2, s3, s4, s5, s6, s7, s8, s9⟩ := hSw
            go_simp
            try with_reducible rfl
          try simp only [Act.put, List.setIfInBounds_toArray, List.set_cons_zero, List.set_cons_succ, List.getElem_toArray, List.getElem_cons_zero, List.getElem_cons_succ]
          refine wpAnyH_take (i := 6) (v := undef) rfl (by kernel_rfl) (by kernel_rfl) (by kernel_rfl) (fun _ _ _ h => h) (Or.inr ⟨by rfl, rfl⟩) (by assumption) ?_
          try simp only [Act.put, List.setIfInBounds_toArray, List.set_cons_zero, List.set_cons_succ, List.getElem_toArray, List.getElem_cons_zero, List.getElem_cons_succ]
          refine wpAnyH_take (i := 7) (v := undef) rfl (by kernel_rfl) (by kernel_rfl) (by kernel_rfl) (fun _ _ _ h => h) (Or.inr ⟨by rfl, rfl⟩) (by assumption) ?_
          try simp only [Act.put, List.setIfInBounds_toArray, List.set_cons_zero, List.set_cons_succ, List.getElem_toArray, List.getElem_cons_zero, List.getElem_cons_succ]
          refine wpAnyH_take (i := 8) (v := undef) rfl (by kernel_rfl) (by kernel_rfl) (by kernel_rfl) (fun _ _ _ h => h) (Or.inr ⟨by rfl, rfl⟩) (by assumption) ?_
          try simp only [Act.put, List.setIfInBounds_toArray, List.set_cons_zero, List.set_cons_succ, List.getElem_toArray, List.getElem_cons_zero, List.getElem_cons_succ]
          refine wpAnyH_take (i := 9) (v := undef) rfl (by kernel_rfl) (by kernel_rfl) (by kernel_rfl) (fun _ _ _ h => h) (Or.inr ⟨by rfl, rfl⟩) (by assumption) ?_
          try simp only [Act.put, List.setIfInBounds_toArray, List.set_cons_zero, List.set_cons_succ, List.getElem_toArray, List.getElem_cons_zero, List.getElem_cons_succ]
          refine wpAnyH_take (i := 10) (v := ?valF10T4) rfl (by kernel_rfl) (by kernel_rfl) (by kernel_rfl) (fun _ _ _ h => h) (Or.inl ⟨by rfl, ?yieF10T4⟩) (by assumption) ?resF10T4
          case yieF10T4 =>
            intro w hSw
            try dsimp only at hSw
            try obtain ⟨s0, s1, s2, s3, s4, s5, s6, s7, s8, s9⟩ := hSw
            go_simp
            try with_reducible rfl
          try simp only [Act.put, List.setIfInBounds_toArray, List.set_cons_zero, List.set_cons_succ, List.getElem_toArray, List.getElem_cons_zero, List.getElem_cons_succ]
          refine wpAnyH_take (i := 11) (v := ?valF11T4) rfl (by kernel_rfl) (by kernel_rfl) (by kernel_rfl) (fun _ _ _ h => h) (Or.inl ⟨by rfl, ?yieF11T4⟩) (by assumption) ?resF11T4
          case yieF11T4 =>
            intro w hSw
            try dsimp only at hSw
            try obtain ⟨s0, s1, s2, s3, s4, s5, s6, s7, s8, s9⟩ := hSw
            go_simp
            try with_reducible rfl
          try simp only [Act.put, List.setIfInBounds_toArray, List.set_cons_zero, List.set_cons_succ, List.getElem_toArray, List.getElem_cons_zero, List.getElem_cons_succ]
          refine wpAnyH_take (i := 12) (v := ?valF12T4) rfl (by kernel_rfl) (by kernel_rfl) (by kernel_rfl) (fun _ _ _ h => h) (Or.inl ⟨by rfl, ?yieF12T4⟩) (by assumption) ?resF12T4
          case yieF12T4 =>
            intro w hSw
            try dsimp only at hSw
            try obtain ⟨s0, s1, s2, s3, s4, s5, s6, s7, s8, s9⟩ := hSw
            go_simp
            try with_reducible rfl
          try simp only [Act.put, List.setIfInBounds_toArray, List.set_cons_zero, List.set_cons_succ, List.getElem_toArray, List.getElem_cons_zero, List.getElem_cons_succ]
          refine wpAnyH_done (by kernel_rfl) ?_ _
          refine NoPanic.normal ?_
          all_goals (try go_wp2_with fail)
          go_ret2
          exact ⟨hbX.trans (hb2.mono hbX.size), .inr ⟨HN.out, _, rfl⟩⟩
        | true =>
          rw [hsm] at HDO
          have HSM := Lib.hid hsm
          simp only [hsm] at HSS
          clear hsm
          by_cases hsz : tx.size ≤ 120
          · have HN := Lib.hid (show boS s = some d by rw [HDO.out]; simp [hsz])
            have q116 : decide ((tx.size : Int) ≤ 120) = true := by simp; omega
            clear hsz
            go_wp2_with fail
            go_region_held3 (fun w' => w'.cell? ⟨w.heap.size, 0, none⟩ = some (.int .i64 s.kind) ∧ w'.cell? ⟨w.heap.size, 1, none⟩ = some (.string s.name) ∧ w'.cell? ⟨w.heap.size, 2, none⟩ = some (.int .i64 s.e.kind) ∧ w'.cell? ⟨w.heap.size, 3, none⟩ = some (.int .i64 s.e.n) ∧ w'.cell? ⟨w.heap.size, 4, none⟩ = some (.string s.e.s) ∧ w'.cell? ⟨w.heap.size, 5, none⟩ = some (.slice A1 s.e.kids.length c1) ∧ w'.cell? ⟨w.heap.size, 6, none⟩ = some (.int .i64 s.t.kind) ∧ w'.cell? ⟨w.heap.size, 7, none⟩ = some (.int .i64 s.t.n) ∧ w'.cell? ⟨w.heap.size, 8, none⟩ = some (.string s.t.s) ∧ w'.cell? ⟨w.heap.size, 9, none⟩ = some (.slice A2 s.t.kids.length c2))
              (first | exact ⟨x0, x1, x2, x3, x4, x5, x6, x7, x8, x9⟩ | exact ⟨y0, y1, y2, y3, y4, y5, y6, y7, y8, y9⟩ | exact ⟨z0, z1, z2, z3, z4, z5, z6, z7, z8, z9⟩ | exact ⟨(cell_drew0 _ _).trans e0, (cell_drew0 _ _).trans e1, (cell_drew0 _ _).trans e2, (cell_drew0 _ _).trans e3, (cell_drew0 _ _).trans e4, (cell_drew0 _ _).trans e5, (cell_drew0 _ _).trans e6, (cell_drew0 _ _).trans e7, (cell_drew0 _ _).trans e8, (cell_drew0 _ _).trans e9⟩)
              (first | (refine (HST.out _).mono ?_; rintro r w1 ⟨X1, k1, X2, k2, mid, rfl, hk1, hk2, hO1, hO2, hmid, hb1'⟩; have hb1 : Below X.heap.size X w1 := (Below.refl _ X).drew.trans hb1'; have z0 := (hb1.cell (p := ⟨w.heap.size, 0, none⟩) hlX).trans e0; have z1 := (hb1.cell (p := ⟨w.heap.size, 1, none⟩) hlX).trans e1; have z2 := (hb1.cell (p := ⟨w.heap.size, 2, none⟩) hlX).trans e2; have z3 := (hb1.cell (p := ⟨w.heap.size, 3, none⟩) hlX).trans e3; have z4 := (hb1.cell (p := ⟨w.heap.size, 4, none⟩) hlX).trans e4; have z5 := (hb1.cell (p := ⟨w.heap.size, 5, none⟩) hlX).trans e5; have z6 := (hb1.cell (p := ⟨w.heap.size, 6, none⟩) hlX).trans e6; have z7 := (hb1.cell (p := ⟨w.heap.size, 7, none⟩) hlX).trans e7; have z8 := (hb1.cell (p := ⟨w.heap.size, 8, none⟩) hlX).trans e8; have z9 := (hb1.cell (p := ⟨w.heap.size, 9, none⟩) hlX).trans e9; have KA := HOU.out w1 _ _ _ X1 hO1 hmid; have KB := HOU.out w1 _ _ _ X2 hO2 (Nat.le_refl _)) | (go_at_call 30; refine (HSS.out _ X1 X2 k1 k2 hb1 KA KB hk1 hk2).mono ?_; rintro r w2 ⟨rfl, hb2'⟩; have hb2 : Below X.heap.size X w2 := hb1.trans (hb2'.mono hb1.size); have y0 := (hb2.cell (p := ⟨w.heap.size, 0, none⟩) hlX).trans e0; have y1 := (hb2.cell (p := ⟨w.heap.size, 1, none⟩) hlX).trans e1; have y2 := (hb2.cell (p := ⟨w.heap.size, 2, none⟩) hlX).trans e2; have y3 := (hb2.cell (p := ⟨w.heap.size, 3, none⟩) hlX).trans e3; have y4 := (hb2.cell (p := ⟨w.heap.size, 4, none⟩) hlX).trans e4; have y5 := (hb2.cell (p := ⟨w.heap.size, 5, none⟩) hlX).trans e5; have y6 := (hb2.cell (p := ⟨w.heap.size, 6, none⟩) hlX).trans e6; have y7 := (hb2.cell (p := ⟨w.heap.size, 7, none⟩) hlX).trans e7; have y8 := (hb2.cell (p := ⟨w.heap.size, 8, none⟩) hlX).trans e8; have y9 := (hb2.cell (p := ⟨w.heap.size, 9, none⟩) hlX).trans e9) | (go_at_call 68; refine (HDT.out _ hb2).mono ?_; rintro r w3 ⟨rfl, hb3'⟩; have hb3 : Below X.heap.size X w3 := hb2.trans (hb3'.mono hb2.size); have x0 := (hb3.cell (p := ⟨w.heap.size, 0, none⟩) hlX).trans e0; have x1 := (hb3.cell (p := ⟨w.heap.size, 1, none⟩) hlX).trans e1; have x2 := (hb3.cell (p := ⟨w.heap.size, 2, none⟩) hlX).trans e2; have x3 := (hb3.cell (p := ⟨w.heap.size, 3, none⟩) hlX).trans e3; have x4 := (hb3.cell (p := ⟨w.heap.size, 4, none⟩) hlX).trans e4; have x5 := (hb3.cell (p := ⟨w.heap.size, 5, none⟩) hlX).trans e5; have x6 := (hb3.cell (p := ⟨w.heap.size, 6, none⟩) hlX).trans e6; have x7 := (hb3.cell (p := ⟨w.heap.size, 7, none⟩) hlX).trans e7; have x8 := (hb3.cell (p := ⟨w.heap.size, 8, none⟩) hlX).trans e8; have x9 := (hb3.cell (p := ⟨w.heap.size, 9, none⟩) hlX).trans e9))
            go_wp2_with fail
            go_ret2
            exact ⟨hbX.trans (hb3.mono hbX.size), .inl ⟨d, HN.out, by rw [HV.out]; rfl⟩⟩
          · have HN := Lib.hid (show boS s = none by rw [HDO.out]; simp [hsz])
            have q116 : decide ((tx.size : Int) ≤ 120) = false := by simp; omega
            clear hsz
            go_wp2_with fail
            go_region_held3 (fun w' => w'.cell? ⟨w.heap.size, 0, none⟩ = some (.int .i64 s.kind) ∧ w'.cell? ⟨w.heap.size, 1, none⟩ = some (.string s.name) ∧ w'.cell? ⟨w.heap.size, 2, none⟩ = some (.int .i64 s.e.kind) ∧ w'.cell? ⟨w.heap.size, 3, none⟩ = some (.int .i64 s.e.n) ∧ w'.cell? ⟨w.heap.size, 4, none⟩ = some (.string s.e.s) ∧ w'.cell? ⟨w.heap.size, 5, none⟩ = some (.slice A1 s.e.kids.length c1) ∧ w'.cell? ⟨w.heap.size, 6, none⟩ = some (.int .i64 s.t.kind) ∧ w'.cell? ⟨w.heap.size, 7, none⟩ = some (.int .i64 s.t.n) ∧ w'.cell? ⟨w.heap.size, 8, none⟩ = some (.string s.t.s) ∧ w'.cell? ⟨w.heap.size, 9, none⟩ = some (.slice A2 s.t.kids.length c2))
              (first | exact ⟨x0, x1, x2, x3, x4, x5, x6, x7, x8, x9⟩ | exact ⟨y0, y1, y2, y3, y4, y5, y6, y7, y8, y9⟩ | exact ⟨z0, z1, z2, z3, z4, z5, z6, z7, z8, z9⟩ | exact ⟨(cell_drew0 _ _).trans e0, (cell_drew0 _ _).trans e1, (cell_drew0 _ _).trans e2, (cell_drew0 _ _).trans e3, (cell_drew0 _ _).trans e4, (cell_drew0 _ _).trans e5, (cell_drew0 _ _).trans e6, (cell_drew0 _ _).trans e7, (cell_drew0 _ _).trans e8, (cell_drew0 _ _).trans e9⟩)
              (first | (refine (HST.out _).mono ?_; rintro r w1 ⟨X1, k1, X2, k2, mid, rfl, hk1, hk2, hO1, hO2, hmid, hb1'⟩; have hb1 : Below X.heap.size X w1 := (Below.refl _ X).drew.trans hb1'; have z0 := (hb1.cell (p := ⟨w.heap.size, 0, none⟩) hlX).trans e0; have z1 := (hb1.cell (p := ⟨w.heap.size, 1, none⟩) hlX).trans e1; have z2 := (hb1.cell (p := ⟨w.heap.size, 2, none⟩) hlX).trans e2; have z3 := (hb1.cell (p := ⟨w.heap.size, 3, none⟩) hlX).trans e3; have z4 := (hb1.cell (p := ⟨w.heap.size, 4, none⟩) hlX).trans e4; have z5 := (hb1.cell (p := ⟨w.heap.size, 5, none⟩) hlX).trans e5; have z6 := (hb1.cell (p := ⟨w.heap.size, 6, none⟩) hlX).trans e6; have z7 := (hb1.cell (p := ⟨w.heap.size, 7, none⟩) hlX).trans e7; have z8 := (hb1.cell (p := ⟨w.heap.size, 8, none⟩) hlX).trans e8; have z9 := (hb1.cell (p := ⟨w.heap.size, 9, none⟩) hlX).trans e9; have KA := HOU.out w1 _ _ _ X1 hO1 hmid; have KB := HOU.out w1 _ _ _ X2 hO2 (Nat.le_refl _)) | (go_at_call 30; refine (HSS.out _ X1 X2 k1 k2 hb1 KA KB hk1 hk2).mono ?_; rintro r w2 ⟨rfl, hb2'⟩; have hb2 : Below X.heap.size X w2 := hb1.trans (hb2'.mono hb1.size); have y0 := (hb2.cell (p := ⟨w.heap.size, 0, none⟩) hlX).trans e0; have y1 := (hb2.cell (p := ⟨w.heap.size, 1, none⟩) hlX).trans e1; have y2 := (hb2.cell (p := ⟨w.heap.size, 2, none⟩) hlX).trans e2; have y3 := (hb2.cell (p := ⟨w.heap.size, 3, none⟩) hlX).trans e3; have y4 := (hb2.cell (p := ⟨w.heap.size, 4, none⟩) hlX).trans e4; have y5 := (hb2.cell (p := ⟨w.heap.size, 5, none⟩) hlX).trans e5; have y6 := (hb2.cell (p := ⟨w.heap.size, 6, none⟩) hlX).trans e6; have y7 := (hb2.cell (p := ⟨w.heap.size, 7, none⟩) hlX).trans e7; have y8 := (hb2.cell (p := ⟨w.heap.size, 8, none⟩) hlX).trans e8; have y9 := (hb2.cell (p := ⟨w.heap.size, 9, none⟩) hlX).trans e9) | (go_at_call 68; refine (HDT.out _ hb2).mono ?_; rintro r w3 ⟨rfl, hb3'⟩; have hb3 : Below X.heap.size X w3 := hb2.trans (hb3'.mono hb2.size); have x0 := (hb3.cell (p := ⟨w.heap.size, 0, none⟩) hlX).trans e0; have x1 := (hb3.cell (p := ⟨w.heap.size, 1, none⟩) hlX).trans e1; have x2 := (hb3.cell (p := ⟨w.heap.size, 2, none⟩) hlX).trans e2; have x3 := (hb3.cell (p := ⟨w.heap.size, 3, none⟩) hlX).trans e3; have x4 := (hb3.cell (p := ⟨w.heap.size, 4, none⟩) hlX).trans e4; have x5 := (hb3.cell (p := ⟨w.heap.size, 5, none⟩) hlX).trans e5; have x6 := (hb3.cell (p := ⟨w.heap.size, 6, none⟩) hlX).trans e6; have x7 := (hb3.cell (p := ⟨w.heap.size, 7, none⟩) hlX).trans e7; have x8 := (hb3.cell (p := ⟨w.heap.size, 8, none⟩) hlX).trans e8; have x9 := (hb3.cell (p := ⟨w.heap.size, 9, none⟩) hlX).trans e9))
            go_wp2_with fail
            go_ret2
            exact ⟨hbX.trans (hb3.mono hbX.size), .inr ⟨HN.out, _, rfl⟩⟩
  have q3 : (s.kind == 3) = false := by rw [beq_eq_false_iff_ne]; exact hk3
  have HN := Lib.hid (show boS s = none by unfold boS baS; rw [if_neg hk0, if_neg hk1, if_neg hk2, if_neg hk3]; rfl)
  clear hk0 hk1 hk2 hk3
  go_wp2_with fail
  go_ret2
  exact ⟨hbX, .inr ⟨HN.out, _, rfl⟩⟩
end Go.Proofs.YtfknelkbdoiokaaGreatDoor
