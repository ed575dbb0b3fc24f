/-
  The contract of the model's StmtOk.
-/
import Derived.Test.YtabignplhkbcpaaGreatDoorGF
import Derived.Test.YtabignplhkbcpaaGreatDoorGZ
namespace Go.Proofs.YtabignplhkbcpaaGreatDoor
open Go.RowKit

theorem empty_of {n : ByteArray} (h : n.toList = []) : n = ⟨#[]⟩ := by
  refine str_eq ?_
  rw [h]
  first | rfl | decide | simp
set_option linter.unusedVariables false in
set_option linter.unusedSimpArgs false in
set_option maxRecDepth 100000 in
set_option maxHeartbeats 8000000 in
theorem specStmtOk_any (s : St) (A1 A2 : Option Addr) (c1 c2 B : Nat) (w : World) (hA1 : KidsAt w B A1 s.e.kids) (hA2 : KidsAt w B A2 s.t.kids) (hc1 : s.e.kids.length ≤ c1) (hc2 : s.t.kids.length ≤ c2) (hB : B ≤ w.heap.size) (hwt : s.wt ≤ 2 ^ 29) :
    Calls Tryz.prog 25 #[stV s A1 A2 c1 c2] w fun r w' => r = .returned (.bool (doS s).isSome) ∧ Below w.heap.size w w' := by
  obtain ⟨k, n, t, x, y⟩ := s
  simp only [St.wt] at hwt
  simp only at hA1 hA2 hc1 hc2
  show Calls Tryz.prog 25 #[.agg #[.int .i64 k, .string n, .string t, .int .i64 x.kind, .int .i64 x.n, .string x.s, .slice A1 x.kids.length c1, .int .i64 y.kind, .int .i64 y.n, .string y.s, .slice A2 y.kids.length c2]] w _
  obtain ⟨W0, hW0⟩ : ∃ W0, W0 = w.alloc (.cells #[.int .i64 k, .string n, .string t, .int .i64 x.kind, .int .i64 x.n, .string x.s, .slice A1 x.kids.length c1, .int .i64 y.kind, .int .i64 y.n, .string y.s, .slice A2 y.kids.length c2] 36) := ⟨_, rfl⟩
  have hb0 : Below w.heap.size w W0 := by rw [hW0]; exact (Below.refl _ w).alloc (Nat.le_refl _) _
  have hz0 : W0.heap.size = w.heap.size + 1 := by rw [hW0]; simp
  have hw1 : w.heap.size + 1 ≤ W0.heap.size := by omega
  have HN1 := Lib.hid (fun (W : World) (hW : Below w.heap.size w W) => show Calls Tryz.prog 37 #[.agg #[.int .i64 x.kind, .int .i64 x.n, .string x.s, .slice A1 x.kids.length c1]] W (fun r w' => r = .returned (.bool (sameE x Ex.zero)) ∧ Below W.heap.size W w') from l5None_any x A1 c1 B W (hA1.keep (hW.mono hB)) hc1 (Nat.le_trans hB hW.size) (by omega))
  have HN2 := Lib.hid (fun (W : World) (hW : Below w.heap.size w W) => show Calls Tryz.prog 37 #[.agg #[.int .i64 y.kind, .int .i64 y.n, .string y.s, .slice A2 y.kids.length c2]] W (fun r w' => r = .returned (.bool (sameE y Ex.zero)) ∧ Below W.heap.size W w') from l5None_any y A2 c2 B W (hA2.keep (hW.mono hB)) hc2 (Nat.le_trans hB hW.size) (by omega))
  have HE1 := Lib.hid (fun (W : World) (hW : Below w.heap.size w W) => show Calls Tryz.prog 40 #[.agg #[.int .i64 x.kind, .int .i64 x.n, .string x.s, .slice A1 x.kids.length c1]] W (fun r w' => r = .returned (.bool (okE x)) ∧ Below W.heap.size W w') from specExprOk_any x A1 c1 B W (hA1.keep (hW.mono hB)) hc1 (Nat.le_trans hB hW.size) (by omega))
  have HE2 := Lib.hid (fun (W : World) (hW : Below w.heap.size w W) => show Calls Tryz.prog 40 #[.agg #[.int .i64 y.kind, .int .i64 y.n, .string y.s, .slice A2 y.kids.length c2]] W (fun r w' => r = .returned (.bool (okE y)) ∧ Below W.heap.size W w') from specExprOk_any y A2 c2 B W (hA2.keep (hW.mono hB)) hc2 (Nat.le_trans hB hW.size) (by omega))
  have HNM := Lib.hid (fun (W : World) => l4Name_any n W (by omega))
  have HTY := Lib.hid (fun (W : World) => l4Type_any t W)
  have HWD := Lib.hid (fun (h : preS ⟨k, n, t, x, y⟩ = true) => show ∃ d : De, d.fine = true ∧ d.st = ⟨k, n, t, x, y⟩ ∧ ∀ W, Below w.heap.size w W → Calls Tryz.prog 42 #[.agg #[.int .i64 k, .string n, .string t, .int .i64 x.kind, .int .i64 x.n, .string x.s, .slice A1 x.kids.length c1, .int .i64 y.kind, .int .i64 y.n, .string y.s, .slice A2 y.kids.length c2]] W (Wordy d.words W) from by
    obtain ⟨d, h1, h2⟩ := preS_some h
    refine ⟨d, h1, h2, fun W hW => ?_⟩
    have h3 := l5Words_any d h1 A1 A2 c1 c2 B W (by rw [h2]; exact hA1.keep (hW.mono hB)) (by rw [h2]; exact hA2.keep (hW.mono hB)) (by rw [h2]; exact hc1) (by rw [h2]; exact hc2) (Nat.le_trans hB hW.size)
    rw [h2] at h3
    exact h3)
  have hcell : ∀ (j : Nat) (u : Value), (#[.int .i64 k, .string n, .string t, .int .i64 x.kind, .int .i64 x.n, .string x.s, .slice A1 x.kids.length c1, .int .i64 y.kind, .int .i64 y.n, .string y.s, .slice A2 y.kids.length c2] : Array Value)[j]? = some u → W0.cell? ⟨w.heap.size, j, none⟩ = some u := by
    intro j u hu
    have h0 : W0.heap[w.heap.size]? = some (.cells #[.int .i64 k, .string n, .string t, .int .i64 x.kind, .int .i64 x.n, .string x.s, .slice A1 x.kids.length c1, .int .i64 y.kind, .int .i64 y.n, .string y.s, .slice A2 y.kids.length c2] 36) := by rw [hW0]; exact World.alloc_heap_new w _
    simp only [World.cell?, h0]
    exact hu
  have HS := Lib.hid (show ∀ W, Below (w.heap.size + 1) W0 W → W.cell? ⟨w.heap.size, 0, none⟩ = some (.int .i64 k) ∧ W.cell? ⟨w.heap.size, 1, none⟩ = some (.string n) ∧ W.cell? ⟨w.heap.size, 2, none⟩ = some (.string t) ∧ W.cell? ⟨w.heap.size, 3, none⟩ = some (.int .i64 x.kind) ∧ W.cell? ⟨w.heap.size, 4, none⟩ = some (.int .i64 x.n) ∧ W.cell? ⟨w.heap.size, 5, none⟩ = some (.string x.s) ∧ W.cell? ⟨w.heap.size, 6, none⟩ = some (.slice A1 x.kids.length c1) ∧ W.cell? ⟨w.heap.size, 7, none⟩ = some (.int .i64 y.kind) ∧ W.cell? ⟨w.heap.size, 8, none⟩ = some (.int .i64 y.n) ∧ W.cell? ⟨w.heap.size, 9, none⟩ = some (.string y.s) ∧ W.cell? ⟨w.heap.size, 10, none⟩ = some (.slice A2 y.kids.length c2) from fun W hW => ⟨(hW.cell (p := ⟨w.heap.size, 0, none⟩) (Nat.lt_succ_self _)).trans (hcell 0 _ rfl), (hW.cell (p := ⟨w.heap.size, 1, none⟩) (Nat.lt_succ_self _)).trans (hcell 1 _ rfl), (hW.cell (p := ⟨w.heap.size, 2, none⟩) (Nat.lt_succ_self _)).trans (hcell 2 _ rfl), (hW.cell (p := ⟨w.heap.size, 3, none⟩) (Nat.lt_succ_self _)).trans (hcell 3 _ rfl), (hW.cell (p := ⟨w.heap.size, 4, none⟩) (Nat.lt_succ_self _)).trans (hcell 4 _ rfl), (hW.cell (p := ⟨w.heap.size, 5, none⟩) (Nat.lt_succ_self _)).trans (hcell 5 _ rfl), (hW.cell (p := ⟨w.heap.size, 6, none⟩) (Nat.lt_succ_self _)).trans (hcell 6 _ rfl), (hW.cell (p := ⟨w.heap.size, 7, none⟩) (Nat.lt_succ_self _)).trans (hcell 7 _ rfl), (hW.cell (p := ⟨w.heap.size, 8, none⟩) (Nat.lt_succ_self _)).trans (hcell 8 _ rfl), (hW.cell (p := ⟨w.heap.size, 9, none⟩) (Nat.lt_succ_self _)).trans (hcell 9 _ rfl), (hW.cell (p := ⟨w.heap.size, 10, none⟩) (Nat.lt_succ_self _)).trans (hcell 10 _ rfl)⟩)
  have BX := Below.refl (w.heap.size + 1) W0
  have hBX := hb0
  obtain ⟨y0, y1, y2, y3, y4, y5, y6, y7, y8, y9, y10⟩ := HS.out W0 BX
  have HP : preS ⟨k, n, t, x, y⟩ = false → (doS ⟨k, n, t, x, y⟩).isSome = false := fun h => doS_pre h
  clear hcell hA1 hA2 hwt hz0
  by_cases k0 : k = 0
  · subst k0
    by_cases hn : n = ⟨#[]⟩
    · subst hn
      by_cases ht : t = ⟨#[]⟩
      · subst ht
        by_cases b3 : sameE x Ex.zero = true
        · skip
          by_cases b4 : sameE y Ex.zero = true
          · skip
            obtain ⟨d, hd1, hd2, hd3⟩ := HWD.out (by simp [preS, show ByteArray.empty = (⟨#[]⟩ : ByteArray) from rfl, b3, b4])
            have HD := Lib.hid hd3
            have HA := Lib.hid (show (doS _).isSome = decide (d.text.size ≤ 116) by rw [← doS_isSome hd1, hd2])
            clear hd3 hd2
            clear HWD HP
            go_enter Tryz.func25, Tryz.ntmps25
            go_wp2_with fail
            rw [← hW0]
            clear hW0
            go_wp2_with (first | (go_at_call 37; ((first | (with_reducible refine (HN1.out _ hBX).mono ?_) | (with_reducible refine (HN2.out _ hBX).mono ?_) | (with_reducible refine (HE1.out _ hBX).mono ?_) | (with_reducible refine (HE2.out _ hBX).mono ?_)); rintro r X ⟨rfl, hYZ⟩; replace BX := BX.trans (hYZ.mono (Nat.le_trans hw1 BX.size)); replace hBX := hb0.trans (BX.mono (Nat.le_add_right _ 1)); clear hYZ; obtain ⟨y0, y1, y2, y3, y4, y5, y6, y7, y8, y9, y10⟩ := HS.out _ BX)) | (go_at_call 40; ((first | (with_reducible refine (HN1.out _ hBX).mono ?_) | (with_reducible refine (HN2.out _ hBX).mono ?_) | (with_reducible refine (HE1.out _ hBX).mono ?_) | (with_reducible refine (HE2.out _ hBX).mono ?_)); rintro r X ⟨rfl, hYZ⟩; replace BX := BX.trans (hYZ.mono (Nat.le_trans hw1 BX.size)); replace hBX := hb0.trans (BX.mono (Nat.le_add_right _ 1)); clear hYZ; obtain ⟨y0, y1, y2, y3, y4, y5, y6, y7, y8, y9, y10⟩ := HS.out _ BX)) | (go_at_call 38; ((first | refine (HNM.out _).mono ?_ | refine (HTY.out _).mono ?_); rintro r w' ⟨rfl, rfl⟩)) | (go_at_call 39; ((first | refine (HNM.out _).mono ?_ | refine (HTY.out _).mono ?_); rintro r w' ⟨rfl, rfl⟩)))
            refine (HD.out _ hBX).mono ?_
            rintro r X ⟨v, rfl, hv, hYZ⟩
            obtain ⟨A5, c5, rfl, _⟩ := own_slice hv
            have HT := Lib.hid (specTokText_any A5 c5 d.words X (by have h1 := tot_small _ (De.words_small hd1); have h2 := De.words_length hd1; omega) (SlIs.own hv))
            clear hv
            have hBZ := hBX.trans (hYZ.mono hBX.size)
            go_wp2_with fail
            refine HT.out.mono ?_
            rintro r w' ⟨rfl, rfl⟩
            go_wp2_with fail
            go_ret
            exact ⟨ret_bool (by rw [HA.out]; unfold De.text; first | (simp; omega) | simp), hBZ⟩
          · replace b4 := Bool.eq_false_iff.2 b4
            have HQ := Lib.hid (HP (by simp [preS, b4]))
            clear HWD HP
            go_enter Tryz.func25, Tryz.ntmps25
            go_wp2_with fail
            rw [← hW0]
            clear hW0
            go_wp2_with (first | (go_at_call 37; ((first | (with_reducible refine (HN1.out _ hBX).mono ?_) | (with_reducible refine (HN2.out _ hBX).mono ?_) | (with_reducible refine (HE1.out _ hBX).mono ?_) | (with_reducible refine (HE2.out _ hBX).mono ?_)); rintro r X ⟨rfl, hYZ⟩; replace BX := BX.trans (hYZ.mono (Nat.le_trans hw1 BX.size)); replace hBX := hb0.trans (BX.mono (Nat.le_add_right _ 1)); clear hYZ; obtain ⟨y0, y1, y2, y3, y4, y5, y6, y7, y8, y9, y10⟩ := HS.out _ BX)) | (go_at_call 40; ((first | (with_reducible refine (HN1.out _ hBX).mono ?_) | (with_reducible refine (HN2.out _ hBX).mono ?_) | (with_reducible refine (HE1.out _ hBX).mono ?_) | (with_reducible refine (HE2.out _ hBX).mono ?_)); rintro r X ⟨rfl, hYZ⟩; replace BX := BX.trans (hYZ.mono (Nat.le_trans hw1 BX.size)); replace hBX := hb0.trans (BX.mono (Nat.le_add_right _ 1)); clear hYZ; obtain ⟨y0, y1, y2, y3, y4, y5, y6, y7, y8, y9, y10⟩ := HS.out _ BX)) | (go_at_call 38; ((first | refine (HNM.out _).mono ?_ | refine (HTY.out _).mono ?_); rintro r w' ⟨rfl, rfl⟩)) | (go_at_call 39; ((first | refine (HNM.out _).mono ?_ | refine (HTY.out _).mono ?_); rintro r w' ⟨rfl, rfl⟩)))
            go_ret
            exact ⟨ret_bool (by rw [HQ.out]), hBX⟩
        · replace b3 := Bool.eq_false_iff.2 b3
          have HQ := Lib.hid (HP (by simp [preS, b3]))
          clear HWD HP
          go_enter Tryz.func25, Tryz.ntmps25
          go_wp2_with fail
          rw [← hW0]
          clear hW0
          go_wp2_with (first | (go_at_call 37; ((first | (with_reducible refine (HN1.out _ hBX).mono ?_) | (with_reducible refine (HN2.out _ hBX).mono ?_) | (with_reducible refine (HE1.out _ hBX).mono ?_) | (with_reducible refine (HE2.out _ hBX).mono ?_)); rintro r X ⟨rfl, hYZ⟩; replace BX := BX.trans (hYZ.mono (Nat.le_trans hw1 BX.size)); replace hBX := hb0.trans (BX.mono (Nat.le_add_right _ 1)); clear hYZ; obtain ⟨y0, y1, y2, y3, y4, y5, y6, y7, y8, y9, y10⟩ := HS.out _ BX)) | (go_at_call 40; ((first | (with_reducible refine (HN1.out _ hBX).mono ?_) | (with_reducible refine (HN2.out _ hBX).mono ?_) | (with_reducible refine (HE1.out _ hBX).mono ?_) | (with_reducible refine (HE2.out _ hBX).mono ?_)); rintro r X ⟨rfl, hYZ⟩; replace BX := BX.trans (hYZ.mono (Nat.le_trans hw1 BX.size)); replace hBX := hb0.trans (BX.mono (Nat.le_add_right _ 1)); clear hYZ; obtain ⟨y0, y1, y2, y3, y4, y5, y6, y7, y8, y9, y10⟩ := HS.out _ BX)) | (go_at_call 38; ((first | refine (HNM.out _).mono ?_ | refine (HTY.out _).mono ?_); rintro r w' ⟨rfl, rfl⟩)) | (go_at_call 39; ((first | refine (HNM.out _).mono ?_ | refine (HTY.out _).mono ?_); rintro r w' ⟨rfl, rfl⟩)))
          go_ret
          exact ⟨ret_bool (by rw [HQ.out]), hBX⟩
      · have ht' : ¬ t.toList = [] := fun hh => ht (empty_of hh)
        have ht2 : (t.toList == []) = false := beq_eq_false_iff_ne.2 ht'
        have HQ := Lib.hid (HP (by simp [preS, show ByteArray.empty = (⟨#[]⟩ : ByteArray) from rfl, ht]))
        clear HWD HP
        go_enter Tryz.func25, Tryz.ntmps25
        go_wp2_with fail
        rw [← hW0]
        clear hW0
        go_wp2_with (first | (go_at_call 37; ((first | (with_reducible refine (HN1.out _ hBX).mono ?_) | (with_reducible refine (HN2.out _ hBX).mono ?_) | (with_reducible refine (HE1.out _ hBX).mono ?_) | (with_reducible refine (HE2.out _ hBX).mono ?_)); rintro r X ⟨rfl, hYZ⟩; replace BX := BX.trans (hYZ.mono (Nat.le_trans hw1 BX.size)); replace hBX := hb0.trans (BX.mono (Nat.le_add_right _ 1)); clear hYZ; obtain ⟨y0, y1, y2, y3, y4, y5, y6, y7, y8, y9, y10⟩ := HS.out _ BX)) | (go_at_call 40; ((first | (with_reducible refine (HN1.out _ hBX).mono ?_) | (with_reducible refine (HN2.out _ hBX).mono ?_) | (with_reducible refine (HE1.out _ hBX).mono ?_) | (with_reducible refine (HE2.out _ hBX).mono ?_)); rintro r X ⟨rfl, hYZ⟩; replace BX := BX.trans (hYZ.mono (Nat.le_trans hw1 BX.size)); replace hBX := hb0.trans (BX.mono (Nat.le_add_right _ 1)); clear hYZ; obtain ⟨y0, y1, y2, y3, y4, y5, y6, y7, y8, y9, y10⟩ := HS.out _ BX)) | (go_at_call 38; ((first | refine (HNM.out _).mono ?_ | refine (HTY.out _).mono ?_); rintro r w' ⟨rfl, rfl⟩)) | (go_at_call 39; ((first | refine (HNM.out _).mono ?_ | refine (HTY.out _).mono ?_); rintro r w' ⟨rfl, rfl⟩)))
        go_ret
        exact ⟨ret_bool (by rw [HQ.out]), hBX⟩
    · have hn' : ¬ n.toList = [] := fun hh => hn (empty_of hh)
      have hn2 : (n.toList == []) = false := beq_eq_false_iff_ne.2 hn'
      have HQ := Lib.hid (HP (by simp [preS, show ByteArray.empty = (⟨#[]⟩ : ByteArray) from rfl, hn]))
      clear HWD HP
      go_enter Tryz.func25, Tryz.ntmps25
      go_wp2_with fail
      rw [← hW0]
      clear hW0
      go_wp2_with (first | (go_at_call 37; ((first | (with_reducible refine (HN1.out _ hBX).mono ?_) | (with_reducible refine (HN2.out _ hBX).mono ?_) | (with_reducible refine (HE1.out _ hBX).mono ?_) | (with_reducible refine (HE2.out _ hBX).mono ?_)); rintro r X ⟨rfl, hYZ⟩; replace BX := BX.trans (hYZ.mono (Nat.le_trans hw1 BX.size)); replace hBX := hb0.trans (BX.mono (Nat.le_add_right _ 1)); clear hYZ; obtain ⟨y0, y1, y2, y3, y4, y5, y6, y7, y8, y9, y10⟩ := HS.out _ BX)) | (go_at_call 40; ((first | (with_reducible refine (HN1.out _ hBX).mono ?_) | (with_reducible refine (HN2.out _ hBX).mono ?_) | (with_reducible refine (HE1.out _ hBX).mono ?_) | (with_reducible refine (HE2.out _ hBX).mono ?_)); rintro r X ⟨rfl, hYZ⟩; replace BX := BX.trans (hYZ.mono (Nat.le_trans hw1 BX.size)); replace hBX := hb0.trans (BX.mono (Nat.le_add_right _ 1)); clear hYZ; obtain ⟨y0, y1, y2, y3, y4, y5, y6, y7, y8, y9, y10⟩ := HS.out _ BX)) | (go_at_call 38; ((first | refine (HNM.out _).mono ?_ | refine (HTY.out _).mono ?_); rintro r w' ⟨rfl, rfl⟩)) | (go_at_call 39; ((first | refine (HNM.out _).mono ?_ | refine (HTY.out _).mono ?_); rintro r w' ⟨rfl, rfl⟩)))
      go_ret
      exact ⟨ret_bool (by rw [HQ.out]), hBX⟩
  have q0 : (k == 0) = false := beq_eq_false_iff_ne.2 k0
  by_cases k1 : k = 1
  · subst k1
    by_cases b1 : nameB n = true
    · skip
      by_cases b2 : typeB t = true
      · skip
        by_cases b3 : okE x = true
        · skip
          by_cases b4 : sameE y Ex.zero = true
          · skip
            obtain ⟨d, hd1, hd2, hd3⟩ := HWD.out (by simp [preS, show ByteArray.empty = (⟨#[]⟩ : ByteArray) from rfl, b1, b2, b3, b4])
            have HD := Lib.hid hd3
            have HA := Lib.hid (show (doS _).isSome = decide (d.text.size ≤ 116) by rw [← doS_isSome hd1, hd2])
            clear hd3 hd2
            clear HWD HP
            go_enter Tryz.func25, Tryz.ntmps25
            go_wp2_with fail
            rw [← hW0]
            clear hW0
            go_wp2_with (first | (go_at_call 37; ((first | (with_reducible refine (HN1.out _ hBX).mono ?_) | (with_reducible refine (HN2.out _ hBX).mono ?_) | (with_reducible refine (HE1.out _ hBX).mono ?_) | (with_reducible refine (HE2.out _ hBX).mono ?_)); rintro r X ⟨rfl, hYZ⟩; replace BX := BX.trans (hYZ.mono (Nat.le_trans hw1 BX.size)); replace hBX := hb0.trans (BX.mono (Nat.le_add_right _ 1)); clear hYZ; obtain ⟨y0, y1, y2, y3, y4, y5, y6, y7, y8, y9, y10⟩ := HS.out _ BX)) | (go_at_call 40; ((first | (with_reducible refine (HN1.out _ hBX).mono ?_) | (with_reducible refine (HN2.out _ hBX).mono ?_) | (with_reducible refine (HE1.out _ hBX).mono ?_) | (with_reducible refine (HE2.out _ hBX).mono ?_)); rintro r X ⟨rfl, hYZ⟩; replace BX := BX.trans (hYZ.mono (Nat.le_trans hw1 BX.size)); replace hBX := hb0.trans (BX.mono (Nat.le_add_right _ 1)); clear hYZ; obtain ⟨y0, y1, y2, y3, y4, y5, y6, y7, y8, y9, y10⟩ := HS.out _ BX)) | (go_at_call 38; ((first | refine (HNM.out _).mono ?_ | refine (HTY.out _).mono ?_); rintro r w' ⟨rfl, rfl⟩)) | (go_at_call 39; ((first | refine (HNM.out _).mono ?_ | refine (HTY.out _).mono ?_); rintro r w' ⟨rfl, rfl⟩)))
            refine (HD.out _ hBX).mono ?_
            rintro r X ⟨v, rfl, hv, hYZ⟩
            obtain ⟨A5, c5, rfl, _⟩ := own_slice hv
            have HT := Lib.hid (specTokText_any A5 c5 d.words X (by have h1 := tot_small _ (De.words_small hd1); have h2 := De.words_length hd1; omega) (SlIs.own hv))
            clear hv
            have hBZ := hBX.trans (hYZ.mono hBX.size)
            go_wp2_with fail
            refine HT.out.mono ?_
            rintro r w' ⟨rfl, rfl⟩
            go_wp2_with fail
            go_ret
            exact ⟨ret_bool (by rw [HA.out]; unfold De.text; first | (simp; omega) | simp), hBZ⟩
          · replace b4 := Bool.eq_false_iff.2 b4
            have HQ := Lib.hid (HP (by simp [preS, b4]))
            clear HWD HP
            go_enter Tryz.func25, Tryz.ntmps25
            go_wp2_with fail
            rw [← hW0]
            clear hW0
            go_wp2_with (first | (go_at_call 37; ((first | (with_reducible refine (HN1.out _ hBX).mono ?_) | (with_reducible refine (HN2.out _ hBX).mono ?_) | (with_reducible refine (HE1.out _ hBX).mono ?_) | (with_reducible refine (HE2.out _ hBX).mono ?_)); rintro r X ⟨rfl, hYZ⟩; replace BX := BX.trans (hYZ.mono (Nat.le_trans hw1 BX.size)); replace hBX := hb0.trans (BX.mono (Nat.le_add_right _ 1)); clear hYZ; obtain ⟨y0, y1, y2, y3, y4, y5, y6, y7, y8, y9, y10⟩ := HS.out _ BX)) | (go_at_call 40; ((first | (with_reducible refine (HN1.out _ hBX).mono ?_) | (with_reducible refine (HN2.out _ hBX).mono ?_) | (with_reducible refine (HE1.out _ hBX).mono ?_) | (with_reducible refine (HE2.out _ hBX).mono ?_)); rintro r X ⟨rfl, hYZ⟩; replace BX := BX.trans (hYZ.mono (Nat.le_trans hw1 BX.size)); replace hBX := hb0.trans (BX.mono (Nat.le_add_right _ 1)); clear hYZ; obtain ⟨y0, y1, y2, y3, y4, y5, y6, y7, y8, y9, y10⟩ := HS.out _ BX)) | (go_at_call 38; ((first | refine (HNM.out _).mono ?_ | refine (HTY.out _).mono ?_); rintro r w' ⟨rfl, rfl⟩)) | (go_at_call 39; ((first | refine (HNM.out _).mono ?_ | refine (HTY.out _).mono ?_); rintro r w' ⟨rfl, rfl⟩)))
            go_ret
            exact ⟨ret_bool (by rw [HQ.out]), hBX⟩
        · replace b3 := Bool.eq_false_iff.2 b3
          have HQ := Lib.hid (HP (by simp [preS, b3]))
          clear HWD HP
          go_enter Tryz.func25, Tryz.ntmps25
          go_wp2_with fail
          rw [← hW0]
          clear hW0
          go_wp2_with (first | (go_at_call 37; ((first | (with_reducible refine (HN1.out _ hBX).mono ?_) | (with_reducible refine (HN2.out _ hBX).mono ?_) | (with_reducible refine (HE1.out _ hBX).mono ?_) | (with_reducible refine (HE2.out _ hBX).mono ?_)); rintro r X ⟨rfl, hYZ⟩; replace BX := BX.trans (hYZ.mono (Nat.le_trans hw1 BX.size)); replace hBX := hb0.trans (BX.mono (Nat.le_add_right _ 1)); clear hYZ; obtain ⟨y0, y1, y2, y3, y4, y5, y6, y7, y8, y9, y10⟩ := HS.out _ BX)) | (go_at_call 40; ((first | (with_reducible refine (HN1.out _ hBX).mono ?_) | (with_reducible refine (HN2.out _ hBX).mono ?_) | (with_reducible refine (HE1.out _ hBX).mono ?_) | (with_reducible refine (HE2.out _ hBX).mono ?_)); rintro r X ⟨rfl, hYZ⟩; replace BX := BX.trans (hYZ.mono (Nat.le_trans hw1 BX.size)); replace hBX := hb0.trans (BX.mono (Nat.le_add_right _ 1)); clear hYZ; obtain ⟨y0, y1, y2, y3, y4, y5, y6, y7, y8, y9, y10⟩ := HS.out _ BX)) | (go_at_call 38; ((first | refine (HNM.out _).mono ?_ | refine (HTY.out _).mono ?_); rintro r w' ⟨rfl, rfl⟩)) | (go_at_call 39; ((first | refine (HNM.out _).mono ?_ | refine (HTY.out _).mono ?_); rintro r w' ⟨rfl, rfl⟩)))
          go_ret
          exact ⟨ret_bool (by rw [HQ.out]), hBX⟩
      · replace b2 := Bool.eq_false_iff.2 b2
        have HQ := Lib.hid (HP (by simp [preS, b2]))
        clear HWD HP
        go_enter Tryz.func25, Tryz.ntmps25
        go_wp2_with fail
        rw [← hW0]
        clear hW0
        go_wp2_with (first | (go_at_call 37; ((first | (with_reducible refine (HN1.out _ hBX).mono ?_) | (with_reducible refine (HN2.out _ hBX).mono ?_) | (with_reducible refine (HE1.out _ hBX).mono ?_) | (with_reducible refine (HE2.out _ hBX).mono ?_)); rintro r X ⟨rfl, hYZ⟩; replace BX := BX.trans (hYZ.mono (Nat.le_trans hw1 BX.size)); replace hBX := hb0.trans (BX.mono (Nat.le_add_right _ 1)); clear hYZ; obtain ⟨y0, y1, y2, y3, y4, y5, y6, y7, y8, y9, y10⟩ := HS.out _ BX)) | (go_at_call 40; ((first | (with_reducible refine (HN1.out _ hBX).mono ?_) | (with_reducible refine (HN2.out _ hBX).mono ?_) | (with_reducible refine (HE1.out _ hBX).mono ?_) | (with_reducible refine (HE2.out _ hBX).mono ?_)); rintro r X ⟨rfl, hYZ⟩; replace BX := BX.trans (hYZ.mono (Nat.le_trans hw1 BX.size)); replace hBX := hb0.trans (BX.mono (Nat.le_add_right _ 1)); clear hYZ; obtain ⟨y0, y1, y2, y3, y4, y5, y6, y7, y8, y9, y10⟩ := HS.out _ BX)) | (go_at_call 38; ((first | refine (HNM.out _).mono ?_ | refine (HTY.out _).mono ?_); rintro r w' ⟨rfl, rfl⟩)) | (go_at_call 39; ((first | refine (HNM.out _).mono ?_ | refine (HTY.out _).mono ?_); rintro r w' ⟨rfl, rfl⟩)))
        go_ret
        exact ⟨ret_bool (by rw [HQ.out]), hBX⟩
    · replace b1 := Bool.eq_false_iff.2 b1
      have HQ := Lib.hid (HP (by simp [preS, b1]))
      clear HWD HP
      go_enter Tryz.func25, Tryz.ntmps25
      go_wp2_with fail
      rw [← hW0]
      clear hW0
      go_wp2_with (first | (go_at_call 37; ((first | (with_reducible refine (HN1.out _ hBX).mono ?_) | (with_reducible refine (HN2.out _ hBX).mono ?_) | (with_reducible refine (HE1.out _ hBX).mono ?_) | (with_reducible refine (HE2.out _ hBX).mono ?_)); rintro r X ⟨rfl, hYZ⟩; replace BX := BX.trans (hYZ.mono (Nat.le_trans hw1 BX.size)); replace hBX := hb0.trans (BX.mono (Nat.le_add_right _ 1)); clear hYZ; obtain ⟨y0, y1, y2, y3, y4, y5, y6, y7, y8, y9, y10⟩ := HS.out _ BX)) | (go_at_call 40; ((first | (with_reducible refine (HN1.out _ hBX).mono ?_) | (with_reducible refine (HN2.out _ hBX).mono ?_) | (with_reducible refine (HE1.out _ hBX).mono ?_) | (with_reducible refine (HE2.out _ hBX).mono ?_)); rintro r X ⟨rfl, hYZ⟩; replace BX := BX.trans (hYZ.mono (Nat.le_trans hw1 BX.size)); replace hBX := hb0.trans (BX.mono (Nat.le_add_right _ 1)); clear hYZ; obtain ⟨y0, y1, y2, y3, y4, y5, y6, y7, y8, y9, y10⟩ := HS.out _ BX)) | (go_at_call 38; ((first | refine (HNM.out _).mono ?_ | refine (HTY.out _).mono ?_); rintro r w' ⟨rfl, rfl⟩)) | (go_at_call 39; ((first | refine (HNM.out _).mono ?_ | refine (HTY.out _).mono ?_); rintro r w' ⟨rfl, rfl⟩)))
      go_ret
      exact ⟨ret_bool (by rw [HQ.out]), hBX⟩
  have q1 : (k == 1) = false := beq_eq_false_iff_ne.2 k1
  by_cases k2 : k = 2
  · subst k2
    by_cases hn : n = ⟨#[]⟩
    · subst hn
      by_cases ht : t = ⟨#[]⟩
      · subst ht
        by_cases b3 : okE x = true
        · skip
          by_cases b4 : sameE y Ex.zero = true
          · skip
            obtain ⟨d, hd1, hd2, hd3⟩ := HWD.out (by simp [preS, show ByteArray.empty = (⟨#[]⟩ : ByteArray) from rfl, b3, b4])
            have HD := Lib.hid hd3
            have HA := Lib.hid (show (doS _).isSome = decide (d.text.size ≤ 116) by rw [← doS_isSome hd1, hd2])
            clear hd3 hd2
            clear HWD HP
            go_enter Tryz.func25, Tryz.ntmps25
            go_wp2_with fail
            rw [← hW0]
            clear hW0
            go_wp2_with (first | (go_at_call 37; ((first | (with_reducible refine (HN1.out _ hBX).mono ?_) | (with_reducible refine (HN2.out _ hBX).mono ?_) | (with_reducible refine (HE1.out _ hBX).mono ?_) | (with_reducible refine (HE2.out _ hBX).mono ?_)); rintro r X ⟨rfl, hYZ⟩; replace BX := BX.trans (hYZ.mono (Nat.le_trans hw1 BX.size)); replace hBX := hb0.trans (BX.mono (Nat.le_add_right _ 1)); clear hYZ; obtain ⟨y0, y1, y2, y3, y4, y5, y6, y7, y8, y9, y10⟩ := HS.out _ BX)) | (go_at_call 40; ((first | (with_reducible refine (HN1.out _ hBX).mono ?_) | (with_reducible refine (HN2.out _ hBX).mono ?_) | (with_reducible refine (HE1.out _ hBX).mono ?_) | (with_reducible refine (HE2.out _ hBX).mono ?_)); rintro r X ⟨rfl, hYZ⟩; replace BX := BX.trans (hYZ.mono (Nat.le_trans hw1 BX.size)); replace hBX := hb0.trans (BX.mono (Nat.le_add_right _ 1)); clear hYZ; obtain ⟨y0, y1, y2, y3, y4, y5, y6, y7, y8, y9, y10⟩ := HS.out _ BX)) | (go_at_call 38; ((first | refine (HNM.out _).mono ?_ | refine (HTY.out _).mono ?_); rintro r w' ⟨rfl, rfl⟩)) | (go_at_call 39; ((first | refine (HNM.out _).mono ?_ | refine (HTY.out _).mono ?_); rintro r w' ⟨rfl, rfl⟩)))
            refine (HD.out _ hBX).mono ?_
            rintro r X ⟨v, rfl, hv, hYZ⟩
            obtain ⟨A5, c5, rfl, _⟩ := own_slice hv
            have HT := Lib.hid (specTokText_any A5 c5 d.words X (by have h1 := tot_small _ (De.words_small hd1); have h2 := De.words_length hd1; omega) (SlIs.own hv))
            clear hv
            have hBZ := hBX.trans (hYZ.mono hBX.size)
            go_wp2_with fail
            refine HT.out.mono ?_
            rintro r w' ⟨rfl, rfl⟩
            go_wp2_with fail
            go_ret
            exact ⟨ret_bool (by rw [HA.out]; unfold De.text; first | (simp; omega) | simp), hBZ⟩
          · replace b4 := Bool.eq_false_iff.2 b4
            have HQ := Lib.hid (HP (by simp [preS, b4]))
            clear HWD HP
            go_enter Tryz.func25, Tryz.ntmps25
            go_wp2_with fail
            rw [← hW0]
            clear hW0
            go_wp2_with (first | (go_at_call 37; ((first | (with_reducible refine (HN1.out _ hBX).mono ?_) | (with_reducible refine (HN2.out _ hBX).mono ?_) | (with_reducible refine (HE1.out _ hBX).mono ?_) | (with_reducible refine (HE2.out _ hBX).mono ?_)); rintro r X ⟨rfl, hYZ⟩; replace BX := BX.trans (hYZ.mono (Nat.le_trans hw1 BX.size)); replace hBX := hb0.trans (BX.mono (Nat.le_add_right _ 1)); clear hYZ; obtain ⟨y0, y1, y2, y3, y4, y5, y6, y7, y8, y9, y10⟩ := HS.out _ BX)) | (go_at_call 40; ((first | (with_reducible refine (HN1.out _ hBX).mono ?_) | (with_reducible refine (HN2.out _ hBX).mono ?_) | (with_reducible refine (HE1.out _ hBX).mono ?_) | (with_reducible refine (HE2.out _ hBX).mono ?_)); rintro r X ⟨rfl, hYZ⟩; replace BX := BX.trans (hYZ.mono (Nat.le_trans hw1 BX.size)); replace hBX := hb0.trans (BX.mono (Nat.le_add_right _ 1)); clear hYZ; obtain ⟨y0, y1, y2, y3, y4, y5, y6, y7, y8, y9, y10⟩ := HS.out _ BX)) | (go_at_call 38; ((first | refine (HNM.out _).mono ?_ | refine (HTY.out _).mono ?_); rintro r w' ⟨rfl, rfl⟩)) | (go_at_call 39; ((first | refine (HNM.out _).mono ?_ | refine (HTY.out _).mono ?_); rintro r w' ⟨rfl, rfl⟩)))
            go_ret
            exact ⟨ret_bool (by rw [HQ.out]), hBX⟩
        · replace b3 := Bool.eq_false_iff.2 b3
          have HQ := Lib.hid (HP (by simp [preS, b3]))
          clear HWD HP
          go_enter Tryz.func25, Tryz.ntmps25
          go_wp2_with fail
          rw [← hW0]
          clear hW0
          go_wp2_with (first | (go_at_call 37; ((first | (with_reducible refine (HN1.out _ hBX).mono ?_) | (with_reducible refine (HN2.out _ hBX).mono ?_) | (with_reducible refine (HE1.out _ hBX).mono ?_) | (with_reducible refine (HE2.out _ hBX).mono ?_)); rintro r X ⟨rfl, hYZ⟩; replace BX := BX.trans (hYZ.mono (Nat.le_trans hw1 BX.size)); replace hBX := hb0.trans (BX.mono (Nat.le_add_right _ 1)); clear hYZ; obtain ⟨y0, y1, y2, y3, y4, y5, y6, y7, y8, y9, y10⟩ := HS.out _ BX)) | (go_at_call 40; ((first | (with_reducible refine (HN1.out _ hBX).mono ?_) | (with_reducible refine (HN2.out _ hBX).mono ?_) | (with_reducible refine (HE1.out _ hBX).mono ?_) | (with_reducible refine (HE2.out _ hBX).mono ?_)); rintro r X ⟨rfl, hYZ⟩; replace BX := BX.trans (hYZ.mono (Nat.le_trans hw1 BX.size)); replace hBX := hb0.trans (BX.mono (Nat.le_add_right _ 1)); clear hYZ; obtain ⟨y0, y1, y2, y3, y4, y5, y6, y7, y8, y9, y10⟩ := HS.out _ BX)) | (go_at_call 38; ((first | refine (HNM.out _).mono ?_ | refine (HTY.out _).mono ?_); rintro r w' ⟨rfl, rfl⟩)) | (go_at_call 39; ((first | refine (HNM.out _).mono ?_ | refine (HTY.out _).mono ?_); rintro r w' ⟨rfl, rfl⟩)))
          go_ret
          exact ⟨ret_bool (by rw [HQ.out]), hBX⟩
      · have ht' : ¬ t.toList = [] := fun hh => ht (empty_of hh)
        have ht2 : (t.toList == []) = false := beq_eq_false_iff_ne.2 ht'
        have HQ := Lib.hid (HP (by simp [preS, show ByteArray.empty = (⟨#[]⟩ : ByteArray) from rfl, ht]))
        clear HWD HP
        go_enter Tryz.func25, Tryz.ntmps25
        go_wp2_with fail
        rw [← hW0]
        clear hW0
        go_wp2_with (first | (go_at_call 37; ((first | (with_reducible refine (HN1.out _ hBX).mono ?_) | (with_reducible refine (HN2.out _ hBX).mono ?_) | (with_reducible refine (HE1.out _ hBX).mono ?_) | (with_reducible refine (HE2.out _ hBX).mono ?_)); rintro r X ⟨rfl, hYZ⟩; replace BX := BX.trans (hYZ.mono (Nat.le_trans hw1 BX.size)); replace hBX := hb0.trans (BX.mono (Nat.le_add_right _ 1)); clear hYZ; obtain ⟨y0, y1, y2, y3, y4, y5, y6, y7, y8, y9, y10⟩ := HS.out _ BX)) | (go_at_call 40; ((first | (with_reducible refine (HN1.out _ hBX).mono ?_) | (with_reducible refine (HN2.out _ hBX).mono ?_) | (with_reducible refine (HE1.out _ hBX).mono ?_) | (with_reducible refine (HE2.out _ hBX).mono ?_)); rintro r X ⟨rfl, hYZ⟩; replace BX := BX.trans (hYZ.mono (Nat.le_trans hw1 BX.size)); replace hBX := hb0.trans (BX.mono (Nat.le_add_right _ 1)); clear hYZ; obtain ⟨y0, y1, y2, y3, y4, y5, y6, y7, y8, y9, y10⟩ := HS.out _ BX)) | (go_at_call 38; ((first | refine (HNM.out _).mono ?_ | refine (HTY.out _).mono ?_); rintro r w' ⟨rfl, rfl⟩)) | (go_at_call 39; ((first | refine (HNM.out _).mono ?_ | refine (HTY.out _).mono ?_); rintro r w' ⟨rfl, rfl⟩)))
        go_ret
        exact ⟨ret_bool (by rw [HQ.out]), hBX⟩
    · have hn' : ¬ n.toList = [] := fun hh => hn (empty_of hh)
      have hn2 : (n.toList == []) = false := beq_eq_false_iff_ne.2 hn'
      have HQ := Lib.hid (HP (by simp [preS, show ByteArray.empty = (⟨#[]⟩ : ByteArray) from rfl, hn]))
      clear HWD HP
      go_enter Tryz.func25, Tryz.ntmps25
      go_wp2_with fail
      rw [← hW0]
      clear hW0
      go_wp2_with (first | (go_at_call 37; ((first | (with_reducible refine (HN1.out _ hBX).mono ?_) | (with_reducible refine (HN2.out _ hBX).mono ?_) | (with_reducible refine (HE1.out _ hBX).mono ?_) | (with_reducible refine (HE2.out _ hBX).mono ?_)); rintro r X ⟨rfl, hYZ⟩; replace BX := BX.trans (hYZ.mono (Nat.le_trans hw1 BX.size)); replace hBX := hb0.trans (BX.mono (Nat.le_add_right _ 1)); clear hYZ; obtain ⟨y0, y1, y2, y3, y4, y5, y6, y7, y8, y9, y10⟩ := HS.out _ BX)) | (go_at_call 40; ((first | (with_reducible refine (HN1.out _ hBX).mono ?_) | (with_reducible refine (HN2.out _ hBX).mono ?_) | (with_reducible refine (HE1.out _ hBX).mono ?_) | (with_reducible refine (HE2.out _ hBX).mono ?_)); rintro r X ⟨rfl, hYZ⟩; replace BX := BX.trans (hYZ.mono (Nat.le_trans hw1 BX.size)); replace hBX := hb0.trans (BX.mono (Nat.le_add_right _ 1)); clear hYZ; obtain ⟨y0, y1, y2, y3, y4, y5, y6, y7, y8, y9, y10⟩ := HS.out _ BX)) | (go_at_call 38; ((first | refine (HNM.out _).mono ?_ | refine (HTY.out _).mono ?_); rintro r w' ⟨rfl, rfl⟩)) | (go_at_call 39; ((first | refine (HNM.out _).mono ?_ | refine (HTY.out _).mono ?_); rintro r w' ⟨rfl, rfl⟩)))
      go_ret
      exact ⟨ret_bool (by rw [HQ.out]), hBX⟩
  have q2 : (k == 2) = false := beq_eq_false_iff_ne.2 k2
  by_cases k3 : k = 3
  · subst k3
    by_cases hn : n = ⟨#[]⟩
    · subst hn
      by_cases ht : t = ⟨#[]⟩
      · subst ht
        by_cases b3 : okE x = true
        · skip
          by_cases b4 : okE y = true
          · skip
            obtain ⟨d, hd1, hd2, hd3⟩ := HWD.out (by simp [preS, show ByteArray.empty = (⟨#[]⟩ : ByteArray) from rfl, b3, b4])
            have HD := Lib.hid hd3
            have HA := Lib.hid (show (doS _).isSome = decide (d.text.size ≤ 116) by rw [← doS_isSome hd1, hd2])
            clear hd3 hd2
            clear HWD HP
            go_enter Tryz.func25, Tryz.ntmps25
            go_wp2_with fail
            rw [← hW0]
            clear hW0
            go_wp2_with (first | (go_at_call 37; ((first | (with_reducible refine (HN1.out _ hBX).mono ?_) | (with_reducible refine (HN2.out _ hBX).mono ?_) | (with_reducible refine (HE1.out _ hBX).mono ?_) | (with_reducible refine (HE2.out _ hBX).mono ?_)); rintro r X ⟨rfl, hYZ⟩; replace BX := BX.trans (hYZ.mono (Nat.le_trans hw1 BX.size)); replace hBX := hb0.trans (BX.mono (Nat.le_add_right _ 1)); clear hYZ; obtain ⟨y0, y1, y2, y3, y4, y5, y6, y7, y8, y9, y10⟩ := HS.out _ BX)) | (go_at_call 40; ((first | (with_reducible refine (HN1.out _ hBX).mono ?_) | (with_reducible refine (HN2.out _ hBX).mono ?_) | (with_reducible refine (HE1.out _ hBX).mono ?_) | (with_reducible refine (HE2.out _ hBX).mono ?_)); rintro r X ⟨rfl, hYZ⟩; replace BX := BX.trans (hYZ.mono (Nat.le_trans hw1 BX.size)); replace hBX := hb0.trans (BX.mono (Nat.le_add_right _ 1)); clear hYZ; obtain ⟨y0, y1, y2, y3, y4, y5, y6, y7, y8, y9, y10⟩ := HS.out _ BX)) | (go_at_call 38; ((first | refine (HNM.out _).mono ?_ | refine (HTY.out _).mono ?_); rintro r w' ⟨rfl, rfl⟩)) | (go_at_call 39; ((first | refine (HNM.out _).mono ?_ | refine (HTY.out _).mono ?_); rintro r w' ⟨rfl, rfl⟩)))
            refine (HD.out _ hBX).mono ?_
            rintro r X ⟨v, rfl, hv, hYZ⟩
            obtain ⟨A5, c5, rfl, _⟩ := own_slice hv
            have HT := Lib.hid (specTokText_any A5 c5 d.words X (by have h1 := tot_small _ (De.words_small hd1); have h2 := De.words_length hd1; omega) (SlIs.own hv))
            clear hv
            have hBZ := hBX.trans (hYZ.mono hBX.size)
            go_wp2_with fail
            refine HT.out.mono ?_
            rintro r w' ⟨rfl, rfl⟩
            go_wp2_with fail
            go_ret
            exact ⟨ret_bool (by rw [HA.out]; unfold De.text; first | (simp; omega) | simp), hBZ⟩
          · replace b4 := Bool.eq_false_iff.2 b4
            have HQ := Lib.hid (HP (by simp [preS, b4]))
            clear HWD HP
            go_enter Tryz.func25, Tryz.ntmps25
            go_wp2_with fail
            rw [← hW0]
            clear hW0
            go_wp2_with (first | (go_at_call 37; ((first | (with_reducible refine (HN1.out _ hBX).mono ?_) | (with_reducible refine (HN2.out _ hBX).mono ?_) | (with_reducible refine (HE1.out _ hBX).mono ?_) | (with_reducible refine (HE2.out _ hBX).mono ?_)); rintro r X ⟨rfl, hYZ⟩; replace BX := BX.trans (hYZ.mono (Nat.le_trans hw1 BX.size)); replace hBX := hb0.trans (BX.mono (Nat.le_add_right _ 1)); clear hYZ; obtain ⟨y0, y1, y2, y3, y4, y5, y6, y7, y8, y9, y10⟩ := HS.out _ BX)) | (go_at_call 40; ((first | (with_reducible refine (HN1.out _ hBX).mono ?_) | (with_reducible refine (HN2.out _ hBX).mono ?_) | (with_reducible refine (HE1.out _ hBX).mono ?_) | (with_reducible refine (HE2.out _ hBX).mono ?_)); rintro r X ⟨rfl, hYZ⟩; replace BX := BX.trans (hYZ.mono (Nat.le_trans hw1 BX.size)); replace hBX := hb0.trans (BX.mono (Nat.le_add_right _ 1)); clear hYZ; obtain ⟨y0, y1, y2, y3, y4, y5, y6, y7, y8, y9, y10⟩ := HS.out _ BX)) | (go_at_call 38; ((first | refine (HNM.out _).mono ?_ | refine (HTY.out _).mono ?_); rintro r w' ⟨rfl, rfl⟩)) | (go_at_call 39; ((first | refine (HNM.out _).mono ?_ | refine (HTY.out _).mono ?_); rintro r w' ⟨rfl, rfl⟩)))
            go_ret
            exact ⟨ret_bool (by rw [HQ.out]), hBX⟩
        · replace b3 := Bool.eq_false_iff.2 b3
          have HQ := Lib.hid (HP (by simp [preS, b3]))
          clear HWD HP
          go_enter Tryz.func25, Tryz.ntmps25
          go_wp2_with fail
          rw [← hW0]
          clear hW0
          go_wp2_with (first | (go_at_call 37; ((first | (with_reducible refine (HN1.out _ hBX).mono ?_) | (with_reducible refine (HN2.out _ hBX).mono ?_) | (with_reducible refine (HE1.out _ hBX).mono ?_) | (with_reducible refine (HE2.out _ hBX).mono ?_)); rintro r X ⟨rfl, hYZ⟩; replace BX := BX.trans (hYZ.mono (Nat.le_trans hw1 BX.size)); replace hBX := hb0.trans (BX.mono (Nat.le_add_right _ 1)); clear hYZ; obtain ⟨y0, y1, y2, y3, y4, y5, y6, y7, y8, y9, y10⟩ := HS.out _ BX)) | (go_at_call 40; ((first | (with_reducible refine (HN1.out _ hBX).mono ?_) | (with_reducible refine (HN2.out _ hBX).mono ?_) | (with_reducible refine (HE1.out _ hBX).mono ?_) | (with_reducible refine (HE2.out _ hBX).mono ?_)); rintro r X ⟨rfl, hYZ⟩; replace BX := BX.trans (hYZ.mono (Nat.le_trans hw1 BX.size)); replace hBX := hb0.trans (BX.mono (Nat.le_add_right _ 1)); clear hYZ; obtain ⟨y0, y1, y2, y3, y4, y5, y6, y7, y8, y9, y10⟩ := HS.out _ BX)) | (go_at_call 38; ((first | refine (HNM.out _).mono ?_ | refine (HTY.out _).mono ?_); rintro r w' ⟨rfl, rfl⟩)) | (go_at_call 39; ((first | refine (HNM.out _).mono ?_ | refine (HTY.out _).mono ?_); rintro r w' ⟨rfl, rfl⟩)))
          go_ret
          exact ⟨ret_bool (by rw [HQ.out]), hBX⟩
      · have ht' : ¬ t.toList = [] := fun hh => ht (empty_of hh)
        have ht2 : (t.toList == []) = false := beq_eq_false_iff_ne.2 ht'
        have HQ := Lib.hid (HP (by simp [preS, show ByteArray.empty = (⟨#[]⟩ : ByteArray) from rfl, ht]))
        clear HWD HP
        go_enter Tryz.func25, Tryz.ntmps25
        go_wp2_with fail
        rw [← hW0]
        clear hW0
        go_wp2_with (first | (go_at_call 37; ((first | (with_reducible refine (HN1.out _ hBX).mono ?_) | (with_reducible refine (HN2.out _ hBX).mono ?_) | (with_reducible refine (HE1.out _ hBX).mono ?_) | (with_reducible refine (HE2.out _ hBX).mono ?_)); rintro r X ⟨rfl, hYZ⟩; replace BX := BX.trans (hYZ.mono (Nat.le_trans hw1 BX.size)); replace hBX := hb0.trans (BX.mono (Nat.le_add_right _ 1)); clear hYZ; obtain ⟨y0, y1, y2, y3, y4, y5, y6, y7, y8, y9, y10⟩ := HS.out _ BX)) | (go_at_call 40; ((first | (with_reducible refine (HN1.out _ hBX).mono ?_) | (with_reducible refine (HN2.out _ hBX).mono ?_) | (with_reducible refine (HE1.out _ hBX).mono ?_) | (with_reducible refine (HE2.out _ hBX).mono ?_)); rintro r X ⟨rfl, hYZ⟩; replace BX := BX.trans (hYZ.mono (Nat.le_trans hw1 BX.size)); replace hBX := hb0.trans (BX.mono (Nat.le_add_right _ 1)); clear hYZ; obtain ⟨y0, y1, y2, y3, y4, y5, y6, y7, y8, y9, y10⟩ := HS.out _ BX)) | (go_at_call 38; ((first | refine (HNM.out _).mono ?_ | refine (HTY.out _).mono ?_); rintro r w' ⟨rfl, rfl⟩)) | (go_at_call 39; ((first | refine (HNM.out _).mono ?_ | refine (HTY.out _).mono ?_); rintro r w' ⟨rfl, rfl⟩)))
        go_ret
        exact ⟨ret_bool (by rw [HQ.out]), hBX⟩
    · have hn' : ¬ n.toList = [] := fun hh => hn (empty_of hh)
      have hn2 : (n.toList == []) = false := beq_eq_false_iff_ne.2 hn'
      have HQ := Lib.hid (HP (by simp [preS, show ByteArray.empty = (⟨#[]⟩ : ByteArray) from rfl, hn]))
      clear HWD HP
      go_enter Tryz.func25, Tryz.ntmps25
      go_wp2_with fail
      rw [← hW0]
      clear hW0
      go_wp2_with (first | (go_at_call 37; ((first | (with_reducible refine (HN1.out _ hBX).mono ?_) | (with_reducible refine (HN2.out _ hBX).mono ?_) | (with_reducible refine (HE1.out _ hBX).mono ?_) | (with_reducible refine (HE2.out _ hBX).mono ?_)); rintro r X ⟨rfl, hYZ⟩; replace BX := BX.trans (hYZ.mono (Nat.le_trans hw1 BX.size)); replace hBX := hb0.trans (BX.mono (Nat.le_add_right _ 1)); clear hYZ; obtain ⟨y0, y1, y2, y3, y4, y5, y6, y7, y8, y9, y10⟩ := HS.out _ BX)) | (go_at_call 40; ((first | (with_reducible refine (HN1.out _ hBX).mono ?_) | (with_reducible refine (HN2.out _ hBX).mono ?_) | (with_reducible refine (HE1.out _ hBX).mono ?_) | (with_reducible refine (HE2.out _ hBX).mono ?_)); rintro r X ⟨rfl, hYZ⟩; replace BX := BX.trans (hYZ.mono (Nat.le_trans hw1 BX.size)); replace hBX := hb0.trans (BX.mono (Nat.le_add_right _ 1)); clear hYZ; obtain ⟨y0, y1, y2, y3, y4, y5, y6, y7, y8, y9, y10⟩ := HS.out _ BX)) | (go_at_call 38; ((first | refine (HNM.out _).mono ?_ | refine (HTY.out _).mono ?_); rintro r w' ⟨rfl, rfl⟩)) | (go_at_call 39; ((first | refine (HNM.out _).mono ?_ | refine (HTY.out _).mono ?_); rintro r w' ⟨rfl, rfl⟩)))
      go_ret
      exact ⟨ret_bool (by rw [HQ.out]), hBX⟩
  have q3 : (k == 3) = false := beq_eq_false_iff_ne.2 k3
  have HQ := Lib.hid (HP (by simp [preS, k0, k1, k2, k3]))
  clear HWD HP
  go_enter Tryz.func25, Tryz.ntmps25
  go_wp2_with fail
  rw [← hW0]
  clear hW0
  go_wp2_with (first | (go_at_call 37; ((first | (with_reducible refine (HN1.out _ hBX).mono ?_) | (with_reducible refine (HN2.out _ hBX).mono ?_) | (with_reducible refine (HE1.out _ hBX).mono ?_) | (with_reducible refine (HE2.out _ hBX).mono ?_)); rintro r X ⟨rfl, hYZ⟩; replace BX := BX.trans (hYZ.mono (Nat.le_trans hw1 BX.size)); replace hBX := hb0.trans (BX.mono (Nat.le_add_right _ 1)); clear hYZ; obtain ⟨y0, y1, y2, y3, y4, y5, y6, y7, y8, y9, y10⟩ := HS.out _ BX)) | (go_at_call 40; ((first | (with_reducible refine (HN1.out _ hBX).mono ?_) | (with_reducible refine (HN2.out _ hBX).mono ?_) | (with_reducible refine (HE1.out _ hBX).mono ?_) | (with_reducible refine (HE2.out _ hBX).mono ?_)); rintro r X ⟨rfl, hYZ⟩; replace BX := BX.trans (hYZ.mono (Nat.le_trans hw1 BX.size)); replace hBX := hb0.trans (BX.mono (Nat.le_add_right _ 1)); clear hYZ; obtain ⟨y0, y1, y2, y3, y4, y5, y6, y7, y8, y9, y10⟩ := HS.out _ BX)) | (go_at_call 38; ((first | refine (HNM.out _).mono ?_ | refine (HTY.out _).mono ?_); rintro r w' ⟨rfl, rfl⟩)) | (go_at_call 39; ((first | refine (HNM.out _).mono ?_ | refine (HTY.out _).mono ?_); rintro r w' ⟨rfl, rfl⟩)))
  go_ret
  exact ⟨ret_bool (by rw [HQ.out]), hBX⟩
end Go.Proofs.YtabignplhkbcpaaGreatDoor
