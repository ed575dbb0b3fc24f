/-
  The contract of the model's StmtText.
-/
import Derived.Test.YtkllhnhinealfaaGreatDoorSpecOk2
import Derived.Test.YtkllhnhinealfaaGreatDoorImplStmt
namespace Go.Proofs.YtkllhnhinealfaaGreatDoor
open Go.RowKit

set_option linter.unusedVariables false in
set_option linter.unusedSimpArgs false in
set_option maxRecDepth 100000 in
set_option maxHeartbeats 8000000 in
theorem specStmtText_any (s : St) (A1 A2 : Option Addr) (c1 c2 B : Nat) (w : World) (hA1 : KidsAt w B A1 s.e.kids) (hA2 : KidsAt w B A2 s.t.kids) (hc1 : s.e.kids.length ≤ c1) (hc2 : s.t.kids.length ≤ c2) (hB : B ≤ w.heap.size) (hwt : s.wt ≤ 2 ^ 29) :
    Calls Tryz.prog 22 #[stV s A1 A2 c1 c2] w fun r w' => r = .returned (.string (textS s)) ∧ Below w.heap.size w w' := by
  obtain ⟨W0, hW0⟩ : ∃ W0, W0 = w.alloc (.cells #[.int .i64 s.kind, .string s.name, .string s.typ, .int .i64 s.e.kind, .int .i64 s.e.n, .string s.e.s, .slice A1 s.e.kids.length c1, .int .i64 s.t.kind, .int .i64 s.t.n, .string s.t.s, .slice A2 s.t.kids.length c2] 27) := ⟨_, rfl⟩
  have hb0 : Below w.heap.size w W0 := by rw [hW0]; exact (Below.refl _ w).alloc (Nat.le_refl _) _
  have HO := Lib.hid (specStmtOk_any s A1 A2 c1 c2 B W0 (hA1.keep (hb0.mono hB)) (hA2.keep (hb0.mono hB)) hc1 hc2 (Nat.le_trans hB hb0.size) hwt)
  have HWD := Lib.hid (fun (d : De) (hd : doS s = some d) => show d.fine = true ∧ ∀ W, Below w.heap.size w W → Calls Tryz.prog 43 #[stV s A1 A2 c1 c2] W (Wordy d.words W) from by
    obtain ⟨h1, h2, _⟩ := doS_some hd
    refine ⟨h1, fun W hW => ?_⟩
    have h3 := l5Words_any d h1 A1 A2 c1 c2 B W (by rw [h2]; exact hA1.keep (hW.mono hB)) (by rw [h2]; exact hA2.keep (hW.mono hB)) (by rw [h2]; exact hc1) (by rw [h2]; exact hc2) (Nat.le_trans hB hW.size)
    rw [h2] at h3
    exact h3)
  clear hA1 hA2 hwt
  have HTS := Lib.hid (show ∀ d, doS s = some d → textS s = d.text from fun d h => by unfold textS; rw [h])
  have HTN := Lib.hid (show doS s = none → textS s = ByteArray.empty from fun h => by unfold textS; rw [h])
  generalize doS s = o at *
  generalize textS s = tx at *
  obtain ⟨k, n, t, x, y⟩ := s
  simp only at hc1 hc2
  unfold stV at HO HWD ⊢
  simp only at hW0 HO HWD ⊢
  have hz0 : W0.heap.size = w.heap.size + 1 := by rw [hW0]; simp
  have hw1 : w.heap.size + 1 ≤ W0.heap.size := by omega
  have hcell : ∀ (j : Nat) (u : Value), (#[.int .i64 k, .string n, .string t, .int .i64 x.kind, .int .i64 x.n, .string x.s, .slice A1 x.kids.length c1, .int .i64 y.kind, .int .i64 y.n, .string y.s, .slice A2 y.kids.length c2] : Array Value)[j]? = some u → W0.cell? ⟨w.heap.size, j, none⟩ = some u := by
    intro j u hu
    have h0 : W0.heap[w.heap.size]? = some (.cells #[.int .i64 k, .string n, .string t, .int .i64 x.kind, .int .i64 x.n, .string x.s, .slice A1 x.kids.length c1, .int .i64 y.kind, .int .i64 y.n, .string y.s, .slice A2 y.kids.length c2] 27) := by rw [hW0]; exact World.alloc_heap_new w _
    simp only [World.cell?, h0]
    exact hu
  have HS := Lib.hid (show ∀ W, Below (w.heap.size + 1) W0 W → W.cell? ⟨w.heap.size, 0, none⟩ = some (.int .i64 k) ∧ W.cell? ⟨w.heap.size, 1, none⟩ = some (.string n) ∧ W.cell? ⟨w.heap.size, 2, none⟩ = some (.string t) ∧ W.cell? ⟨w.heap.size, 3, none⟩ = some (.int .i64 x.kind) ∧ W.cell? ⟨w.heap.size, 4, none⟩ = some (.int .i64 x.n) ∧ W.cell? ⟨w.heap.size, 5, none⟩ = some (.string x.s) ∧ W.cell? ⟨w.heap.size, 6, none⟩ = some (.slice A1 x.kids.length c1) ∧ W.cell? ⟨w.heap.size, 7, none⟩ = some (.int .i64 y.kind) ∧ W.cell? ⟨w.heap.size, 8, none⟩ = some (.int .i64 y.n) ∧ W.cell? ⟨w.heap.size, 9, none⟩ = some (.string y.s) ∧ W.cell? ⟨w.heap.size, 10, none⟩ = some (.slice A2 y.kids.length c2) from fun W hW => ⟨(hW.cell (p := ⟨w.heap.size, 0, none⟩) (Nat.lt_succ_self _)).trans (hcell 0 _ rfl), (hW.cell (p := ⟨w.heap.size, 1, none⟩) (Nat.lt_succ_self _)).trans (hcell 1 _ rfl), (hW.cell (p := ⟨w.heap.size, 2, none⟩) (Nat.lt_succ_self _)).trans (hcell 2 _ rfl), (hW.cell (p := ⟨w.heap.size, 3, none⟩) (Nat.lt_succ_self _)).trans (hcell 3 _ rfl), (hW.cell (p := ⟨w.heap.size, 4, none⟩) (Nat.lt_succ_self _)).trans (hcell 4 _ rfl), (hW.cell (p := ⟨w.heap.size, 5, none⟩) (Nat.lt_succ_self _)).trans (hcell 5 _ rfl), (hW.cell (p := ⟨w.heap.size, 6, none⟩) (Nat.lt_succ_self _)).trans (hcell 6 _ rfl), (hW.cell (p := ⟨w.heap.size, 7, none⟩) (Nat.lt_succ_self _)).trans (hcell 7 _ rfl), (hW.cell (p := ⟨w.heap.size, 8, none⟩) (Nat.lt_succ_self _)).trans (hcell 8 _ rfl), (hW.cell (p := ⟨w.heap.size, 9, none⟩) (Nat.lt_succ_self _)).trans (hcell 9 _ rfl), (hW.cell (p := ⟨w.heap.size, 10, none⟩) (Nat.lt_succ_self _)).trans (hcell 10 _ rfl)⟩)
  clear hcell hz0
  go_enter Tryz.func22, Tryz.ntmps22
  go_wp2_with fail
  rw [← hW0]
  clear hW0
  refine HO.out.mono ?_
  rintro r X ⟨rfl, hb1⟩
  have hbX : Below w.heap.size w X := hb0.trans (hb1.mono hb0.size)
  obtain ⟨y0, y1, y2, y3, y4, y5, y6, y7, y8, y9, y10⟩ := HS.out X (hb1.mono hw1)
  clear HS HO
  cases o with
  | none =>
    have HT := Lib.hid (show tx = ByteArray.empty from HTN.out rfl)
    go_wp2_with fail
    go_ret
    exact ⟨by rw [HT.out]; rfl, hbX⟩
  | some d =>
    have HT := Lib.hid (show tx = d.text from HTS.out d rfl)
    obtain ⟨hd1, hd3⟩ := HWD.out d rfl
    have HD := Lib.hid hd3
    clear hd3 HWD
    go_wp2_with fail
    refine (HD.out _ hbX).mono ?_
    rintro r Y ⟨v, rfl, hv, hYZ⟩
    obtain ⟨A5, c5, rfl, _⟩ := own_slice hv
    have HTK := Lib.hid (specTokText_any A5 c5 d.words Y (by have h1 := tot_small _ (De.words_small hd1); have h2 := De.words_length hd1; omega) (SlIs.own hv))
    have hBZ := hbX.trans (hYZ.mono hbX.size)
    clear hv
    go_wp2_with fail
    refine HTK.out.mono ?_
    rintro r w' ⟨rfl, rfl⟩
    go_wp2_with fail
    go_ret
    exact ⟨by rw [HT.out]; rfl, hBZ⟩
end Go.Proofs.YtkllhnhinealfaaGreatDoor
