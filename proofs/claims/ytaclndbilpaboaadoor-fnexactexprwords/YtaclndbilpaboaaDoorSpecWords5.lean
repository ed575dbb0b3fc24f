/-
  The contract of the model's ExprWords, for all that can be read.
-/
import Derived.Test.YtaclndbilpaboaaDoorSpecWords4
import Derived.Test.YtaclndbilpaboaaDoorSpecMany
namespace Go.Proofs.YtaclndbilpaboaaDoor
open Go.RowKit

theorem Pt.at_one {p : Pt} (h : p.fine = true) : p.at 1 = p.words := by
  have hl : ¬ p.lvl < 1 := by
    cases p with
    | two s a b =>
      simp only [Pt.fine, Bool.and_eq_true, decide_eq_true_eq] at h
      simp only [Pt.lvl]
      omega
    | _ => simp [Pt.lvl]
  unfold Pt.at
  rw [decide_eq_false hl]
  rfl

set_option maxRecDepth 100000 in
set_option maxHeartbeats 2000000 in
theorem specExprWords_any (e : Ex) (A : Option Addr) (c B : Nat) (w : World) (hA : KidsAt w B A e.kids) (hc : e.kids.length ≤ c) (hB : B ≤ w.heap.size) (hw : e.wt ≤ 2 ^ 40) :
    Calls Tryd.prog 12 #[.agg #[.int .i64 e.kind, .int .i64 e.n, .string e.s, .slice A e.kids.length c]] w (Wordy (wordsE e) w) := by
  obtain ⟨W0, hW0⟩ : ∃ W0, W0 = w.alloc (.cells #[.int .i64 e.kind, .int .i64 e.n, .string e.s, .slice A e.kids.length c] 29) := ⟨_, rfl⟩
  have hb0 : Below w.heap.size w W0 := by rw [hW0]; exact (Below.refl _ w).alloc (Nat.le_refl _) _
  have hs0 : w.heap.size < W0.heap.size := by rw [hW0]; simp
  have a0 : W0.cell? ⟨w.heap.size, 0, none⟩ = some (.int .i64 e.kind) := by rw [hW0]; exact cell_made4 w _ _ 0 _ rfl
  have a1 : W0.cell? ⟨w.heap.size, 1, none⟩ = some (.int .i64 e.n) := by rw [hW0]; exact cell_made4 w _ _ 1 _ rfl
  have a2 : W0.cell? ⟨w.heap.size, 2, none⟩ = some (.string e.s) := by rw [hW0]; exact cell_made4 w _ _ 2 _ rfl
  have a3 : W0.cell? ⟨w.heap.size, 3, none⟩ = some (.slice A e.kids.length c) := by rw [hW0]; exact cell_made4 w _ _ 3 _ rfl
  have HC := Lib.hid (specExprOk_any e A c B W0 (hA.keep (hb0.mono hB)) hc (Nat.le_trans hB hb0.size) hw)
  have HA := Lib.hid hA
  clear hA hw
  cases hok : okE e
  · have HF := Lib.hid (show wordsE e = [] by unfold wordsE; rw [show okP e = none from by cases h : okP e with | none => rfl | some p => rw [← okP_isSome, h] at hok; cases hok])
    rw [hok] at HC
    clear hok
    go_enter Tryd.func12, Tryd.ntmps12
    go_wp2_with fail
    rw [← hW0]
    refine HC.out.mono ?_
    rintro r w1 ⟨rfl, hb1⟩
    have hb01 := hb0.trans (hb1.mono hb0.size)
    go_wp2_with fail
    refine bodyPost_ret (v := .slice (some ⟨w1.heap.size, 0, none⟩) 0 0) (by simp [results, Tryd.results12, go_sem]) rfl ?_
    rw [HF.out]
    exact ⟨_, rfl, ownsRow_lower (ownsRow_empty w1 9) hb01.size, hb01.alloc hb01.size _⟩
  · obtain ⟨p, hp⟩ : ∃ p, okP e = some p := by
      cases h : okP e with
      | none => rw [← okP_isSome, h] at hok; cases hok
      | some p => exact ⟨p, rfl⟩
    obtain ⟨hex, hpo⟩ := okP_some hp
    have hfine := ok_fine hpo
    have hnod : p.nodes ≤ 12 := by
      unfold Pt.ok at hpo
      simp only [Bool.and_eq_true, decide_eq_true_eq] at hpo
      exact hpo.2.2
    have HF := Lib.hid (show wordsE e = p.at 1 by unfold wordsE; rw [hp]; exact (Pt.at_one hfine).symm)
    have HW := Lib.hid (fun (W : World) (hW : Below w.heap.size w W) => (show Calls Tryd.prog 28 #[.agg #[.int .i64 e.kind, .int .i64 e.n, .string e.s, .slice A e.kids.length c], .int .i64 1] W (Wordy (p.at 1) W) by
      have hA := HA.out.keep (hW.mono hB)
      rw [hex] at hA hc ⊢
      exact l4Words_any p hfine (by omega) A c B W 1 hA hc (Nat.le_trans hB hW.size) (by omega)))
    rw [hok] at HC
    generalize p.at 1 = ws at *
    clear hok hp hex hpo hfine hnod
    go_enter Tryd.func12, Tryd.ntmps12
    go_wp2_with fail
    rw [← hW0]
    refine HC.out.mono ?_
    rintro r w1 ⟨rfl, hb1⟩
    have hb01 := hb0.trans (hb1.mono hb0.size)
    have c0 := (hb1.cell (p := ⟨w.heap.size, 0, none⟩) hs0).trans a0
    have c1 := (hb1.cell (p := ⟨w.heap.size, 1, none⟩) hs0).trans a1
    have c2 := (hb1.cell (p := ⟨w.heap.size, 2, none⟩) hs0).trans a2
    have c3 := (hb1.cell (p := ⟨w.heap.size, 3, none⟩) hs0).trans a3
    clear hW0 a0 a1 a2 a3
    go_wp2_with fail
    refine (HW.out w1 hb01).mono ?_
    rintro r w2 ⟨v, rfl, hv, hb2⟩
    obtain ⟨A2, c2', rfl, _⟩ := own_slice hv
    go_wp2_with fail
    refine bodyPost_ret (v := .slice A2 ws.length c2') (by simp [results, Tryd.results12, go_sem]) rfl ?_
    rw [HF.out]
    exact ⟨_, rfl, ownsRow_lower hv hb01.size, hb01.trans (hb2.mono hb01.size)⟩
end Go.Proofs.YtaclndbilpaboaaDoor
