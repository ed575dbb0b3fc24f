/-
  SpecForm, SpecMany: these texts one behind the other, as a claim holds at most 60 files.
-/
import Derived.Test.YtabignplhkbcpaaGreatDoorGC
namespace Go.Proofs.YtabignplhkbcpaaGreatDoor
open Go.RowKit

set_option maxRecDepth 100000 in
set_option maxHeartbeats 4000000 in
theorem l4Form_any : ∀ (d : Nat) (k n : Int) (s : ByteArray) (ks : List Ex) (A : Option Addr) (c B : Nat) (w : World), d ≤ 100 → KidsAt w B A ks → ks.length ≤ c → B ≤ w.heap.size → s.size ≤ 2 ^ 40 → Ex.wts ks ≤ 2 ^ 40 →
    Calls Tryz.prog 61 #[.agg #[.int .i64 k, .int .i64 n, .string s, .slice A ks.length c], .int .i64 (d : Int)] w fun e w' => e = .returned (.bool (formB d (.mk k n s ks))) ∧ Below w.heap.size w w' := by
  intro d
  induction d with
  | zero =>
    intro k n s ks A c B w hd hA hc hB hs hk
    have hl : ks.length ≤ 2 ^ 40 := Nat.le_trans (Ex.wts_length ks) hk
    clear hA
    go_enter Tryz.func61, Tryz.ntmps61
    go_wp2_with fail
    go_ret
    exact ⟨rfl, (Below.refl _ w).alloc (Nat.le_refl _) _⟩
  | succ d ih =>
    intro k n s ks A c B w hd hA hc hB hs hk
    have hl : ks.length ≤ 2 ^ 40 := Nat.le_trans (Ex.wts_length ks) hk
    have HF := Lib.hid (form_step d k n s ks)
    have HA := Lib.hid hA
    have HI := Lib.hid ih
    have HK := Lib.hid hk
    clear hA ih hk
    have HBW := Lib.hid (show Below w.heap.size w (w.alloc (.cells #[.int .i64 k, .int .i64 n, .string s, .slice A ks.length c] 34)) from (Below.refl _ w).alloc (Nat.le_refl _) _)
    have qd : ¬ ((d : Int) + 1 < 1) := by omega
    by_cases h1 : k = 1
    · subst h1
      by_cases hc1 : 0 ≤ n ∧ n ≤ 1000000 ∧ s = ByteArray.empty
      · obtain ⟨c0, c1, rfl⟩ := hc1
        have q0 : decide (0 ≤ n) = true := by simpa using c0
        have q1 : decide (n ≤ 1000000) = true := by simpa using c1
        by_cases hk0 : ks.length = 0
        · have q2 : ((ks.length : Int) != 0) = false := by rw [bne_eq_false_iff_eq]; omega
          have HH := Lib.hid (show decide (headOk 1 n ByteArray.empty = some ks.length) = true by simp [headOk, c0, c1, hk0])
          have HK0 := Lib.hid hk0
          clear hk0
          go_enter Tryz.func61, Tryz.ntmps61
          go_wp2_with fail
          go_loopw [7] (fun i wr => ∃ j : Nat, j ≤ ks.length ∧ i = .int .i64 j ∧ Below (w.heap.size + 1) (w.alloc (.cells #[.int .i64 1, .int .i64 n, .string ByteArray.empty, .slice A ks.length c] 34)) wr ∧ Hid ((ks.take j).all (formB d) = true))
            (fun i _ => ks.length - (intOf i).toNat)
          case atStart => exact ⟨0, Nat.zero_le _, rfl, Below.refl _ _, Lib.hid rfl⟩
          case round =>
            obtain ⟨j, hj, rfl, hBw, HP⟩ := hrel
            have hc3 : wr.cell? ⟨w.heap.size, 3, none⟩ = some (.slice A ks.length c) := (hBw.cell (p := ⟨w.heap.size, 3, none⟩) (Nat.lt_succ_self _)).trans (cell_made4 w _ _ 3 _ rfl)
            have hBB : Below w.heap.size w wr := ((Below.refl _ w).alloc (Nat.le_refl _) _).trans (hBw.mono (Nat.le_succ _))
            have hK0 := HK0.out
            by_cases hlt : j < ks.length
            · omega
            · have HE := Lib.hid (show ks.all (formB d) = true by have := HP.out; rwa [List.take_of_length_le (by omega)] at this)
              have hx2 : ¬ (j : Int) < 0 := by omega
              clear hK0
              go_wp2_with fail
              go_ret
              exact ⟨ret_bool (by rw [HF.out, HE.out, HH.out]; rfl), hBB⟩
        · have q2 : ((ks.length : Int) != 0) = true := by rw [bne_iff_ne]; omega
          have HH := Lib.hid (show decide (headOk 1 n ByteArray.empty = some ks.length) = false by simp [headOk, c0, c1]; omega)
          clear hk0
          go_enter Tryz.func61, Tryz.ntmps61
          go_wp2_with fail
          go_ret
          exact ⟨ret_bool (by rw [HF.out, HH.out]; rfl), HBW.out⟩
      · have HH := Lib.hid (show decide (headOk 1 n s = some ks.length) = false by simp only [headOk, if_true, if_neg hc1]; rfl)
        by_cases c0 : 0 ≤ n
        · have q0 : decide (0 ≤ n) = true := by simpa using c0
          by_cases c1 : n ≤ 1000000
          · have q1 : decide (n ≤ 1000000) = true := by simpa using c1
            have q2 : (s.toList == []) = false := by rw [isS, decide_eq_false_iff_not]; exact fun e => hc1 ⟨c0, c1, e⟩
            clear hc1
            go_enter Tryz.func61, Tryz.ntmps61
            go_wp2_with fail
            go_ret
            exact ⟨ret_bool (by rw [HF.out, HH.out]; rfl), HBW.out⟩
          · have q1 : decide (n ≤ 1000000) = false := by simpa using c1
            clear hc1
            go_enter Tryz.func61, Tryz.ntmps61
            go_wp2_with fail
            go_ret
            exact ⟨ret_bool (by rw [HF.out, HH.out]; rfl), HBW.out⟩
        · have q0 : decide (0 ≤ n) = false := by simpa using c0
          clear hc1
          go_enter Tryz.func61, Tryz.ntmps61
          go_wp2_with fail
          go_ret
          exact ⟨ret_bool (by rw [HF.out, HH.out]; rfl), HBW.out⟩
    · have e1 : (k == 1) = false := by rw [beq_eq_false_iff_ne]; exact h1
      by_cases h2 : k = 2
      · subst h2
        by_cases hn : n = 0
        · subst hn
          have HC1 := Lib.hid (fun W => l4Name_any s W hs)
          cases hb : nameB s
          · have HH := Lib.hid (show decide (headOk 2 0 s = some ks.length) = false by simp [headOk, hb])
            rw [hb] at HC1
            clear hb
            go_enter Tryz.func61, Tryz.ntmps61
            go_wp2_with fail
            refine (HC1.out _).mono ?_
            rintro e w1 ⟨rfl, rfl⟩
            go_wp2_with fail
            go_ret
            exact ⟨ret_bool (by rw [HF.out, HH.out]; rfl), HBW.out⟩
          · rw [hb] at HC1
            by_cases hk0 : ks.length = 0
            · have q2 : ((ks.length : Int) != 0) = false := by rw [bne_eq_false_iff_eq]; omega
              have HH := Lib.hid (show decide (headOk 2 0 s = some ks.length) = true by simp [headOk, hb, hk0])
              have HK0 := Lib.hid hk0
              clear hb hk0
              go_enter Tryz.func61, Tryz.ntmps61
              go_wp2_with fail
              refine (HC1.out _).mono ?_
              rintro e w1 ⟨rfl, rfl⟩
              clear HC1
              go_wp2_with fail
              go_loopw [7] (fun i wr => ∃ j : Nat, j ≤ ks.length ∧ i = .int .i64 j ∧ Below (w.heap.size + 1) (w.alloc (.cells #[.int .i64 2, .int .i64 0, .string s, .slice A ks.length c] 34)) wr ∧ Hid ((ks.take j).all (formB d) = true))
                (fun i _ => ks.length - (intOf i).toNat)
              case atStart => exact ⟨0, Nat.zero_le _, rfl, Below.refl _ _, Lib.hid rfl⟩
              case round =>
                obtain ⟨j, hj, rfl, hBw, HP⟩ := hrel
                have hc3 : wr.cell? ⟨w.heap.size, 3, none⟩ = some (.slice A ks.length c) := (hBw.cell (p := ⟨w.heap.size, 3, none⟩) (Nat.lt_succ_self _)).trans (cell_made4 w _ _ 3 _ rfl)
                have hBB : Below w.heap.size w wr := ((Below.refl _ w).alloc (Nat.le_refl _) _).trans (hBw.mono (Nat.le_succ _))
                have hK0 := HK0.out
                by_cases hlt : j < ks.length
                · omega
                · have HE := Lib.hid (show ks.all (formB d) = true by have := HP.out; rwa [List.take_of_length_le (by omega)] at this)
                  have hx2 : ¬ (j : Int) < 0 := by omega
                  clear hK0
                  go_wp2_with fail
                  go_ret
                  exact ⟨ret_bool (by rw [HF.out, HE.out, HH.out]; rfl), hBB⟩
            · have q2 : ((ks.length : Int) != 0) = true := by rw [bne_iff_ne]; omega
              have HH := Lib.hid (show decide (headOk 2 0 s = some ks.length) = false by simp [headOk, hb]; omega)
              clear hb hk0
              go_enter Tryz.func61, Tryz.ntmps61
              go_wp2_with fail
              refine (HC1.out _).mono ?_
              rintro e w1 ⟨rfl, rfl⟩
              clear HC1
              go_wp2_with fail
              go_ret
              exact ⟨ret_bool (by rw [HF.out, HH.out]; rfl), HBW.out⟩
        · have qn : (n == 0) = false := by rw [beq_eq_false_iff_ne]; exact hn
          have HH := Lib.hid (show decide (headOk 2 n s = some ks.length) = false by simp [headOk, hn])
          go_enter Tryz.func61, Tryz.ntmps61
          go_wp2_with fail
          go_ret
          exact ⟨ret_bool (by rw [HF.out, HH.out]; rfl), HBW.out⟩
      · have e2 : (k == 2) = false := by rw [beq_eq_false_iff_ne]; exact h2
        by_cases h3 : k = 3
        · subst h3
          by_cases hn : n = 0
          · subst hn
            have HC1 := Lib.hid (fun W => l4Op_any s W)
            cases hb : decide (hold s ≠ 0)
            · have HH := Lib.hid (show decide (headOk 3 0 s = some ks.length) = false by simp only [decide_eq_false_iff_not] at hb; simp [headOk]; intro h; exact absurd h hb)
              rw [hb] at HC1
              clear hb
              go_enter Tryz.func61, Tryz.ntmps61
              go_wp2_with fail
              refine (HC1.out _).mono ?_
              rintro e w1 ⟨rfl, rfl⟩
              go_wp2_with fail
              go_ret
              exact ⟨ret_bool (by rw [HF.out, HH.out]; rfl), HBW.out⟩
            · rw [hb] at HC1
              by_cases hk0 : ks.length = 2
              · have q2 : ((ks.length : Int) != 2) = false := by rw [bne_eq_false_iff_eq]; omega
                have HH := Lib.hid (show decide (headOk 3 0 s = some ks.length) = true by simp only [decide_eq_true_eq] at hb; simp [headOk, hb, hk0])
                have HK0 := Lib.hid hk0
                clear hb hk0
                go_enter Tryz.func61, Tryz.ntmps61
                go_wp2_with fail
                refine (HC1.out _).mono ?_
                rintro e w1 ⟨rfl, rfl⟩
                clear HC1
                go_wp2_with fail
                go_loopw [7] (fun i wr => ∃ j : Nat, j ≤ ks.length ∧ i = .int .i64 j ∧ Below (w.heap.size + 1) (w.alloc (.cells #[.int .i64 3, .int .i64 0, .string s, .slice A ks.length c] 34)) wr ∧ Hid ((ks.take j).all (formB d) = true))
                  (fun i _ => ks.length - (intOf i).toNat)
                case atStart => exact ⟨0, Nat.zero_le _, rfl, Below.refl _ _, Lib.hid rfl⟩
                case round =>
                  obtain ⟨j, hj, rfl, hBw, HP⟩ := hrel
                  have hc3 : wr.cell? ⟨w.heap.size, 3, none⟩ = some (.slice A ks.length c) := (hBw.cell (p := ⟨w.heap.size, 3, none⟩) (Nat.lt_succ_self _)).trans (cell_made4 w _ _ 3 _ rfl)
                  have hBB : Below w.heap.size w wr := ((Below.refl _ w).alloc (Nat.le_refl _) _).trans (hBw.mono (Nat.le_succ _))
                  have hK0 := HK0.out
                  by_cases hlt : j < ks.length
                  · obtain ⟨g, off, D, c', eA, hg, kid⟩ := (HA.out.keep (hBB.mono hB)).at_ hlt
                    subst eA
                    have HT := Lib.hid (all_take (f := formB d) hlt)
                    have HBD := Lib.hid (all_bad (f := formB d) hlt)
                    have hkb : ks[j].wt + 1 ≤ Ex.wts ks := Ex.wt_mem (List.getElem_mem _)
                    generalize ks[j] = x at *
                    obtain ⟨k', n', s', ks'⟩ := x
                    obtain ⟨c0, c1, c2, c3, hcc, hkk⟩ := kid
                    simp only [Ex.kind, Ex.n, Ex.s, Ex.kids, Ex.wt] at c0 c1 c2 c3 hcc hkk hkb
                    have HC := Lib.hid (HI.out k' n' s' ks' D c' B wr (by omega) hkk hcc (Nat.le_trans hB hBB.size) (by have := HK.out; omega) (by have := HK.out; omega))
                    have hx : (j : Int) < (ks.length : Int) := by omega
                    have hx2 : (j : Int) < 2 := by omega
                    clear hkk hkb hK0
                    cases hb : formB d (.mk k' n' s' ks')
                    · have HE := Lib.hid (HBD.out hb)
                      rw [hb] at HC
                      clear hb HBD
                      go_wp2_with fail
                      refine HC.out.mono ?_
                      rintro e w1 ⟨rfl, hb1⟩
                      go_wp2_with fail
                      go_ret
                      exact ⟨ret_bool (by rw [HF.out, HE.out]; simp), hBB.trans (hb1.mono hBB.size)⟩
                    · have HE := Lib.hid (show (ks.take (j + 1)).all (formB d) = true by rw [HT.out, HP.out, hb]; rfl)
                      rw [hb] at HC
                      clear hb HBD HT
                      go_wp2_with fail
                      refine HC.out.mono ?_
                      rintro e w1 ⟨rfl, hb1⟩
                      go_wp2_with fail
                      go_roundw
                      case rel => exact ⟨j + 1, by omega, by go_num, hBw.trans (hb1.mono (by have := hBw.size; simpa using this)), HE⟩
                      case measure => simp [intOf]; omega
                  · have HE := Lib.hid (show ks.all (formB d) = true by have := HP.out; rwa [List.take_of_length_le (by omega)] at this)
                    have hx2 : ¬ (j : Int) < 2 := by omega
                    clear hK0
                    go_wp2_with fail
                    go_ret
                    exact ⟨ret_bool (by rw [HF.out, HE.out, HH.out]; rfl), hBB⟩
              · have q2 : ((ks.length : Int) != 2) = true := by rw [bne_iff_ne]; omega
                have HH := Lib.hid (show decide (headOk 3 0 s = some ks.length) = false by simp only [decide_eq_true_eq] at hb; simp [headOk, hb]; omega)
                clear hb hk0
                go_enter Tryz.func61, Tryz.ntmps61
                go_wp2_with fail
                refine (HC1.out _).mono ?_
                rintro e w1 ⟨rfl, rfl⟩
                clear HC1
                go_wp2_with fail
                go_ret
                exact ⟨ret_bool (by rw [HF.out, HH.out]; rfl), HBW.out⟩
          · have qn : (n == 0) = false := by rw [beq_eq_false_iff_ne]; exact hn
            have HH := Lib.hid (show decide (headOk 3 n s = some ks.length) = false by simp [headOk, hn])
            go_enter Tryz.func61, Tryz.ntmps61
            go_wp2_with fail
            go_ret
            exact ⟨ret_bool (by rw [HF.out, HH.out]; rfl), HBW.out⟩
        · have e3 : (k == 3) = false := by rw [beq_eq_false_iff_ne]; exact h3
          by_cases h4 : k = 4
          · subst h4
            by_cases hn : n = 0
            · subst hn
              have HC1 := Lib.hid (fun W => l4Type_any s W)
              cases hb : typeB s
              · have HH := Lib.hid (show decide (headOk 4 0 s = some ks.length) = false by simp [headOk, hb])
                rw [hb] at HC1
                clear hb
                go_enter Tryz.func61, Tryz.ntmps61
                go_wp2_with fail
                refine (HC1.out _).mono ?_
                rintro e w1 ⟨rfl, rfl⟩
                go_wp2_with fail
                go_ret
                exact ⟨ret_bool (by rw [HF.out, HH.out]; rfl), HBW.out⟩
              · rw [hb] at HC1
                by_cases hk0 : ks.length = 1
                · have q2 : ((ks.length : Int) != 1) = false := by rw [bne_eq_false_iff_eq]; omega
                  have HH := Lib.hid (show decide (headOk 4 0 s = some ks.length) = true by simp [headOk, hb, hk0])
                  have HK0 := Lib.hid hk0
                  clear hb hk0
                  go_enter Tryz.func61, Tryz.ntmps61
                  go_wp2_with fail
                  refine (HC1.out _).mono ?_
                  rintro e w1 ⟨rfl, rfl⟩
                  clear HC1
                  go_wp2_with fail
                  go_loopw [7] (fun i wr => ∃ j : Nat, j ≤ ks.length ∧ i = .int .i64 j ∧ Below (w.heap.size + 1) (w.alloc (.cells #[.int .i64 4, .int .i64 0, .string s, .slice A ks.length c] 34)) wr ∧ Hid ((ks.take j).all (formB d) = true))
                    (fun i _ => ks.length - (intOf i).toNat)
                  case atStart => exact ⟨0, Nat.zero_le _, rfl, Below.refl _ _, Lib.hid rfl⟩
                  case round =>
                    obtain ⟨j, hj, rfl, hBw, HP⟩ := hrel
                    have hc3 : wr.cell? ⟨w.heap.size, 3, none⟩ = some (.slice A ks.length c) := (hBw.cell (p := ⟨w.heap.size, 3, none⟩) (Nat.lt_succ_self _)).trans (cell_made4 w _ _ 3 _ rfl)
                    have hBB : Below w.heap.size w wr := ((Below.refl _ w).alloc (Nat.le_refl _) _).trans (hBw.mono (Nat.le_succ _))
                    have hK0 := HK0.out
                    by_cases hlt : j < ks.length
                    · obtain ⟨g, off, D, c', eA, hg, kid⟩ := (HA.out.keep (hBB.mono hB)).at_ hlt
                      subst eA
                      have HT := Lib.hid (all_take (f := formB d) hlt)
                      have HBD := Lib.hid (all_bad (f := formB d) hlt)
                      have hkb : ks[j].wt + 1 ≤ Ex.wts ks := Ex.wt_mem (List.getElem_mem _)
                      generalize ks[j] = x at *
                      obtain ⟨k', n', s', ks'⟩ := x
                      obtain ⟨c0, c1, c2, c3, hcc, hkk⟩ := kid
                      simp only [Ex.kind, Ex.n, Ex.s, Ex.kids, Ex.wt] at c0 c1 c2 c3 hcc hkk hkb
                      have HC := Lib.hid (HI.out k' n' s' ks' D c' B wr (by omega) hkk hcc (Nat.le_trans hB hBB.size) (by have := HK.out; omega) (by have := HK.out; omega))
                      have hx : (j : Int) < (ks.length : Int) := by omega
                      have hx2 : (j : Int) < 1 := by omega
                      clear hkk hkb hK0
                      cases hb : formB d (.mk k' n' s' ks')
                      · have HE := Lib.hid (HBD.out hb)
                        rw [hb] at HC
                        clear hb HBD
                        go_wp2_with fail
                        refine HC.out.mono ?_
                        rintro e w1 ⟨rfl, hb1⟩
                        go_wp2_with fail
                        go_ret
                        exact ⟨ret_bool (by rw [HF.out, HE.out]; simp), hBB.trans (hb1.mono hBB.size)⟩
                      · have HE := Lib.hid (show (ks.take (j + 1)).all (formB d) = true by rw [HT.out, HP.out, hb]; rfl)
                        rw [hb] at HC
                        clear hb HBD HT
                        go_wp2_with fail
                        refine HC.out.mono ?_
                        rintro e w1 ⟨rfl, hb1⟩
                        go_wp2_with fail
                        go_roundw
                        case rel => exact ⟨j + 1, by omega, by go_num, hBw.trans (hb1.mono (by have := hBw.size; simpa using this)), HE⟩
                        case measure => simp [intOf]; omega
                    · have HE := Lib.hid (show ks.all (formB d) = true by have := HP.out; rwa [List.take_of_length_le (by omega)] at this)
                      have hx2 : ¬ (j : Int) < 1 := by omega
                      clear hK0
                      go_wp2_with fail
                      go_ret
                      exact ⟨ret_bool (by rw [HF.out, HE.out, HH.out]; rfl), hBB⟩
                · have q2 : ((ks.length : Int) != 1) = true := by rw [bne_iff_ne]; omega
                  have HH := Lib.hid (show decide (headOk 4 0 s = some ks.length) = false by simp [headOk, hb]; omega)
                  clear hb hk0
                  go_enter Tryz.func61, Tryz.ntmps61
                  go_wp2_with fail
                  refine (HC1.out _).mono ?_
                  rintro e w1 ⟨rfl, rfl⟩
                  clear HC1
                  go_wp2_with fail
                  go_ret
                  exact ⟨ret_bool (by rw [HF.out, HH.out]; rfl), HBW.out⟩
            · have qn : (n == 0) = false := by rw [beq_eq_false_iff_ne]; exact hn
              have HH := Lib.hid (show decide (headOk 4 n s = some ks.length) = false by simp [headOk, hn])
              go_enter Tryz.func61, Tryz.ntmps61
              go_wp2_with fail
              go_ret
              exact ⟨ret_bool (by rw [HF.out, HH.out]; rfl), HBW.out⟩
          · have e4 : (k == 4) = false := by rw [beq_eq_false_iff_ne]; exact h4
            have HH := Lib.hid (show decide (headOk k n s = some ks.length) = false by simp [headOk, h1, h2, h3, h4])
            clear h1 h2 h3 h4
            go_enter Tryz.func61, Tryz.ntmps61
            go_wp2_with fail
            go_ret
            exact ⟨ret_bool (by rw [HF.out, HH.out]; rfl), HBW.out⟩
end Go.Proofs.YtabignplhkbcpaaGreatDoor

namespace Go.Proofs.YtabignplhkbcpaaGreatDoor
open Go.RowKit

def manyN : Nat → Ex → Nat
  | 0, _ => 1
  | d + 1, e => 1 + (e.kids.map (manyN d)).sum
theorem sum_take {α : Type} (f : α → Nat) (l : List α) (k : Nat) (h : k < l.length) : ((l.take (k + 1)).map f).sum = ((l.take k).map f).sum + f l[k] := by
  rw [List.take_succ_eq_append_getElem h, List.map_append, List.sum_append]; simp
theorem sum_take_le {α : Type} (f : α → Nat) (l : List α) (k : Nat) : ((l.take k).map f).sum ≤ (l.map f).sum := by
  have h : (l.map f).sum = ((l.take k).map f).sum + ((l.drop k).map f).sum := by rw [← List.sum_append, ← List.map_append, List.take_append_drop]
  omega
theorem nodess_eq (ks : List Ex) : Ex.nodess ks = (ks.map Ex.nodes).sum := by
  induction ks with
  | nil => rfl
  | cons x xs ih => simp [Ex.nodess, ih]
theorem sum_map_le {α : Type} (f g : α → Nat) (l : List α) (h : ∀ x ∈ l, f x ≤ g x) : (l.map f).sum ≤ (l.map g).sum := by
  induction l with
  | nil => simp
  | cons x xs ih =>
    have := h x (by simp)
    have := ih (fun y hy => h y (by simp [hy]))
    simp; omega
theorem manyN_le : ∀ (d : Nat) (e : Ex), manyN d e ≤ e.nodes := by
  intro d
  induction d with
  | zero => intro e; cases e; simp [manyN, Ex.nodes]
  | succ d ih =>
    intro e
    obtain ⟨k, n, s, ks⟩ := e
    rw [manyN]
    simp only [Ex.nodes, Ex.kids, nodess_eq]
    have := sum_map_le (manyN d) Ex.nodes ks (fun x _ => ih x)
    omega
theorem manyN_form : ∀ (d : Nat) (e : Ex), formB d e = true → manyN d e = e.nodes := by
  intro d
  induction d with
  | zero => intro e h; simp [formB, ptOf] at h
  | succ d ih =>
    intro e h
    obtain ⟨k, n, s, ks⟩ := e
    rw [form_step, Bool.and_eq_true] at h
    rw [manyN]
    simp only [Ex.nodes, Ex.kids, nodess_eq]
    rw [List.map_congr_left (fun x hx => ih x (List.all_eq_true.1 h.2 x hx))]
theorem wts_sum (ks : List Ex) : (ks.map Ex.nodes).sum ≤ Ex.wts ks := by
  induction ks with
  | nil => simp
  | cons x xs ih => have := x.nodes_le; simp only [List.map_cons, List.sum_cons, Ex.wts]; omega

set_option maxRecDepth 100000 in
set_option maxHeartbeats 4000000 in
theorem l4Many_any : ∀ (d : Nat) (k n : Int) (s : ByteArray) (ks : List Ex) (A : Option Addr) (c B : Nat) (w : World), d ≤ 100 → KidsAt w B A ks → ks.length ≤ c → B ≤ w.heap.size → Ex.wts ks ≤ 2 ^ 40 →
    Calls Tryz.prog 62 #[.agg #[.int .i64 k, .int .i64 n, .string s, .slice A ks.length c], .int .i64 (d : Int)] w fun e w' => e = .returned (.int .i64 (manyN d (.mk k n s ks) : Int)) ∧ Below w.heap.size w w' := by
  intro d
  induction d with
  | zero =>
    intro k n s ks A c B w hd hA hc hB hk
    have hl : ks.length ≤ 2 ^ 40 := Nat.le_trans (Ex.wts_length ks) hk
    clear hA
    go_enter Tryz.func62, Tryz.ntmps62
    go_wp2_with fail
    go_loopw [5, 6] (fun m i wr => m = .int .i64 1 ∧ i = .int .i64 0 ∧ wr = w.alloc (.cells #[.int .i64 k, .int .i64 n, .string s, .slice A ks.length c] 34)) (fun _ _ _ => 0)
    case atStart => exact ⟨rfl, rfl, rfl⟩
    case round =>
      obtain ⟨rfl, rfl, rfl⟩ := hrel
      have hBW : Below w.heap.size w (w.alloc (.cells #[.int .i64 k, .int .i64 n, .string s, .slice A ks.length c] 34)) := (Below.refl _ w).alloc (Nat.le_refl _) _
      by_cases h0 : (0 : Int) < (ks.length : Int)
      · have q : decide ((0 : Int) < (ks.length : Int)) = true := by simpa using h0
        go_wp2_with fail
        go_ret
        exact ⟨rfl, hBW⟩
      · have q : decide ((0 : Int) < (ks.length : Int)) = false := by simpa using h0
        go_wp2_with fail
        go_ret
        exact ⟨rfl, hBW⟩
  | succ d ih =>
    intro k n s ks A c B w hd hA hc hB hk
    have hl : ks.length ≤ 2 ^ 40 := Nat.le_trans (Ex.wts_length ks) hk
    have HA := Lib.hid hA
    have HI := Lib.hid ih
    have HK := Lib.hid hk
    clear hA ih hk
    have qd : (0 : Int) < (d : Int) + 1 := by omega
    have qd2 : decide ((0 : Int) < (d : Int) + 1) = true := decide_eq_true qd
    rw [show ((d + 1 : Nat) : Int) = (d : Int) + 1 from by omega]
    go_enter Tryz.func62, Tryz.ntmps62
    go_wp2_with fail
    go_loopw [5, 6] (fun m i wr => ∃ j : Nat, j ≤ ks.length ∧ i = .int .i64 j ∧ m = .int .i64 ((1 + ((ks.take j).map (manyN d)).sum : Nat) : Int) ∧ Below (w.heap.size + 1) (w.alloc (.cells #[.int .i64 k, .int .i64 n, .string s, .slice A ks.length c] 34)) wr)
      (fun _ i _ => ks.length - (intOf i).toNat)
    case atStart => exact ⟨0, Nat.zero_le _, rfl, rfl, Below.refl _ _⟩
    case round =>
      obtain ⟨j, hj, rfl, rfl, hBw⟩ := hrel
      have hc3 : wr.cell? ⟨w.heap.size, 3, none⟩ = some (.slice A ks.length c) := (hBw.cell (p := ⟨w.heap.size, 3, none⟩) (Nat.lt_succ_self _)).trans (cell_made4 w _ _ 3 _ rfl)
      have hBB : Below w.heap.size w wr := ((Below.refl _ w).alloc (Nat.le_refl _) _).trans (hBw.mono (Nat.le_succ _))
      by_cases hlt : j < ks.length
      · obtain ⟨g, off, D, c', eA, hg, kid⟩ := (HA.out.keep (hBB.mono hB)).at_ hlt
        subst eA
        have HT := Lib.hid (sum_take (manyN d) ks j hlt)
        have hsm : ((ks.take (j + 1)).map (manyN d)).sum ≤ 2 ^ 40 := Nat.le_trans (sum_take_le _ _ _) (Nat.le_trans (sum_map_le _ Ex.nodes _ (fun x _ => manyN_le d x)) (Nat.le_trans (wts_sum ks) HK.out))
        rw [HT.out] at hsm
        have hkb : ks[j].wt + 1 ≤ Ex.wts ks := Ex.wt_mem (List.getElem_mem _)
        generalize ks[j] = x at *
        obtain ⟨k', n', s', ks'⟩ := x
        obtain ⟨c0, c1, c2, c3, hcc, hkk⟩ := kid
        simp only [Ex.kind, Ex.n, Ex.s, Ex.kids, Ex.wt] at c0 c1 c2 c3 hcc hkk hkb
        have HC := Lib.hid (HI.out k' n' s' ks' D c' B wr (by omega) hkk hcc (Nat.le_trans hB hBB.size) (by have := HK.out; omega))
        have hx : (j : Int) < (ks.length : Int) := by omega
        have hx2 : decide ((j : Int) < (ks.length : Int)) = true := by simpa using hx
        clear hkk hkb
        generalize manyN d (.mk k' n' s' ks') = v at *
        generalize ((ks.take j).map (manyN d)).sum = u at *
        go_wp2_with fail
        refine HC.out.mono ?_
        rintro e w1 ⟨rfl, hb1⟩
        clear HC
        go_wp2_with fail
        go_roundw
        case rel => exact ⟨j + 1, by omega, by go_num, by rw [HT.out]; go_num, hBw.trans (hb1.mono (by have := hBw.size; simpa using this))⟩
        case measure => simp [intOf]; omega
      · have hx2 : decide ((j : Int) < (ks.length : Int)) = false := by simp; omega
        have HE := Lib.hid (show manyN (d + 1) (.mk k n s ks) = 1 + ((ks.take j).map (manyN d)).sum by rw [List.take_of_length_le (by omega)]; rfl)
        generalize ((ks.take j).map (manyN d)).sum = u at *
        go_wp2_with fail
        go_ret
        exact ⟨ret_int (by rw [HE.out]), hBB⟩

set_option maxHeartbeats 1000000 in
theorem specExprOk_any (e : Ex) (A : Option Addr) (c B : Nat) (w : World) (hA : KidsAt w B A e.kids) (hc : e.kids.length ≤ c) (hB : B ≤ w.heap.size) (hw : e.wt ≤ 2 ^ 40) :
    Calls Tryz.prog 40 #[.agg #[.int .i64 e.kind, .int .i64 e.n, .string e.s, .slice A e.kids.length c]] w fun r w' => r = .returned (.bool (okE e)) ∧ Below w.heap.size w w' := by
  obtain ⟨k, n, s, ks⟩ := e
  simp only [Ex.kind, Ex.n, Ex.s, Ex.kids, Ex.wt] at hA hc hw ⊢
  have hb0 : Below w.heap.size w (w.alloc (.cells #[.int .i64 k, .int .i64 n, .string s, .slice A ks.length c] 34)) := (Below.refl _ w).alloc (Nat.le_refl _) _
  have HC := Lib.hid (l4Form_any 5 k n s ks A c B _ (by omega) (hA.keep (hb0.mono hB)) hc (Nat.le_trans hB hb0.size) (by omega) (by omega))
  have HM := Lib.hid (fun W (h : Below w.heap.size w W) => l4Many_any 5 k n s ks A c B W (by omega) (hA.keep (h.mono hB)) hc (Nat.le_trans hB h.size) (by omega))
  cases hf : formB 5 (.mk k n s ks)
  · rw [hf] at HC
    have HE := Lib.hid (show okE (.mk k n s ks) = false by unfold okE; rw [show (ptOf 5 (.mk k n s ks)).isSome = false from hf]; rfl)
    clear hA hf
    go_enter Tryz.func40, Tryz.ntmps40
    go_wp2_with fail
    refine HC.out.mono ?_
    rintro e w1 ⟨rfl, hb1⟩
    go_wp2_with fail
    go_ret
    exact ⟨ret_bool HE.out.symm, hb0.trans (hb1.mono hb0.size)⟩
  · rw [hf] at HC
    have HE := Lib.hid (show okE (.mk k n s ks) = decide ((manyN 5 (.mk k n s ks) : Int) ≤ 12) by
      unfold okE; rw [show (ptOf 5 (.mk k n s ks)).isSome = true from hf, manyN_form 5 _ hf, Bool.true_and, decide_eq_decide]; omega)
    clear hA hf
    go_enter Tryz.func40, Tryz.ntmps40
    go_wp2_with fail
    refine HC.out.mono ?_
    rintro e w1 ⟨rfl, hb1⟩
    have d0 : w1.cell? ⟨w.heap.size, 0, none⟩ = some (.int .i64 k) := (hb1.cell (p := ⟨w.heap.size, 0, none⟩) (by simp)).trans (cell_made4 w _ _ 0 _ rfl)
    have d1 : w1.cell? ⟨w.heap.size, 1, none⟩ = some (.int .i64 n) := (hb1.cell (p := ⟨w.heap.size, 1, none⟩) (by simp)).trans (cell_made4 w _ _ 1 _ rfl)
    have d2 : w1.cell? ⟨w.heap.size, 2, none⟩ = some (.string s) := (hb1.cell (p := ⟨w.heap.size, 2, none⟩) (by simp)).trans (cell_made4 w _ _ 2 _ rfl)
    have d3 : w1.cell? ⟨w.heap.size, 3, none⟩ = some (.slice A ks.length c) := (hb1.cell (p := ⟨w.heap.size, 3, none⟩) (by simp)).trans (cell_made4 w _ _ 3 _ rfl)
    have hb2 := hb0.trans (hb1.mono hb0.size)
    have HM2 := Lib.hid (HM.out w1 hb2)
    generalize manyN 5 (.mk k n s ks) = v at *
    clear HM
    go_wp2_with fail
    refine HM2.out.mono ?_
    rintro e w2 ⟨rfl, hb3⟩
    go_wp2_with fail
    all_goals (go_ret; exact ⟨ret_bool (by rw [HE.out] <;> simp [*]), hb2.trans (hb3.mono hb2.size)⟩)
end Go.Proofs.YtabignplhkbcpaaGreatDoor
