/-
  The contract of the model's l4Words at a part with a type.
-/
import Derived.Test.YtaclndbilpaboaaDoorSpecWords2
namespace Go.Proofs.YtaclndbilpaboaaDoor
open Go.RowKit

theorem Pt.at_pos (p : Pt) (t : Nat) : 1 ≤ (p.at t).length := by
  have := p.words_pos
  unfold Pt.at wrapW
  split <;> simp <;> omega
/-- A row that is not empty lies somewhere. -/
theorem wordy_some {xs : List ByteArray} {w w' : World} {r : Ending} (hx : 1 ≤ xs.length) (h : Wordy xs w r w') : ∃ g cap, r = .returned (.slice (some ⟨g, 0, none⟩) xs.length cap) ∧ w.heap.size ≤ g ∧ g < w'.heap.size ∧ (∀ j u, (xs.map strV)[j]? = some u → w'.cell? ((⟨g, 0, none⟩ : Addr).add j) = some u) ∧ Below w.heap.size w w' := by
  obtain ⟨v, rfl, ho, hb⟩ := h
  have ho' := ho
  rcases ho.2 with ⟨_, h0⟩ | ⟨g, cap, cur, hv, hg, hgb, _⟩
  · omega
  · subst hv
    refine ⟨g, cap, rfl, hg, (Array.getElem?_eq_some_iff.1 hgb).1, fun j u hj => ?_, hb⟩
    have hs := SlIs.own ho'
    have hplain : (⟨g, 0, none⟩ : Addr).add j = ⟨g, 0 + j, none⟩ := by unfold Addr.add; split <;> simp_all
    rw [hplain]
    have hjl : j < (xs.map strV).length := (List.getElem?_eq_some_iff.1 hj).1
    obtain ⟨g', off', e, _, hc⟩ := hs.at_ (k := j) hjl
    injection e with e
    injection e with e1 e2 e3
    subst e1
    subst e2
    rw [List.getElem?_eq_getElem hjl] at hj
    injection hj with hj
    rw [← hj]; exact hc

theorem own_some {w : World} {base : Nat} {e : TypeId} {v : Value} {n : Nat} {xs : List Value} (h : w.ownsRow base e 1 v n xs) (hn : 1 ≤ n) : ∃ g cap, v = .slice (some ⟨g, 0, none⟩) n cap ∧ base ≤ g := by
  rcases h.2 with ⟨_, h0⟩ | ⟨g, cap, cur, hv, hg, _⟩
  · omega
  · exact ⟨g, cap, hv, hg⟩
theorem strs_one (xs : List ByteArray) : ∀ u ∈ xs.map strV, u.oneCell' = true := by
  intro u hu
  obtain ⟨s, _, rfl⟩ := List.mem_map.1 hu
  rfl

theorem addr_block (g j : Nat) : ((⟨g, 0, none⟩ : Addr).add j).block = g := by unfold Addr.add; split <;> simp_all
theorem cell_two_new (w : World) (x y : Value) (t : TypeId) : ∀ j u, [x, y][j]? = some u → (w.alloc (.cells #[x, y] t)).cell? ((⟨w.heap.size, 0, none⟩ : Addr).add j) = some u := by
  intro j u hj
  have hplain : (⟨w.heap.size, 0, none⟩ : Addr).add j = ⟨w.heap.size, 0 + j, none⟩ := by unfold Addr.add; split <;> simp_all
  rw [hplain, Nat.zero_add]
  exact cell_made4 w #[x, y] t j u (by simpa using hj)

set_option linter.unusedSimpArgs false in
set_option maxRecDepth 100000 in
set_option maxHeartbeats 4000000 in
theorem l4Words_as (s : ByteArray) (a : Pt) (hf : (Pt.as s a).fine = true) (hnod : a.nodes ≤ 900) (ia : SWords a) : SWords (.as s a) := by
  intro A c B w tight hA hc hB ht
  have HP := Lib.hid (show (Pt.as s a).at tight = a.at 4 ++ [sAs, s] by
    unfold Pt.at wrapW
    rw [show decide ((Pt.as s a).lvl < tight) = false from decide_eq_false (by show ¬ 4 < tight; omega)]
    rfl)
  have HL := Lib.hid (fun W => show Calls Tryd.prog 40 #[.agg #[.int .i64 4, .int .i64 0, .string s, .slice A 1 c]] W (fun e w' => e = .returned (.int .i64 4) ∧ Below W.heap.size W w') from l4Level_any (.as s a) hf A 1 c W)
  simp only [Pt.ex, Ex.kind, Ex.n, Ex.s, Ex.kids, List.length_cons, List.length_nil, Nat.zero_add] at hA hc ⊢
  obtain ⟨g0, off, D0, cc0, e0, hg0, kid0⟩ := hA.at_ (j := 0) (by simp)
  subst e0
  obtain ⟨a0, a1, a2, a3, a4, a5⟩ := kid0
  simp only [List.getElem_cons_zero, Nat.zero_mul, Nat.add_zero] at a0 a1 a2 a3 a4 a5
  have hlen := a.at_pos 4
  have hbound : (a.at 4).length ≤ 6000 := by
    have h1 := a.words_length
    have h2 := wrapW_length (decide (a.lvl < 4)) a.words
    unfold Pt.at
    omega
  obtain ⟨i0, hi, hz0, hz1', hz2⟩ := info_parts infoStr
  have HI := Lib.hid (fun (W : World) (hW : Below w.heap.size w W) => ia D0 cc0 B W 4 (a5.keep (hW.mono hB)) a4 (Nat.le_trans hB hW.size) (Nat.le_refl _))
  generalize (Pt.as s a).at tight = R at *
  generalize a.at 4 = ws at *
  have q : decide ((4 : Int) < (tight : Int)) = false := decide_eq_false (by omega)
  obtain ⟨W2, hW2, hb2, hs2, hcs, HO⟩ := two_new w #[.int .i64 4, .int .i64 0, .string s, .slice (some ⟨g0, off, none⟩) 1 c]
  have HO := Lib.hid HO
  have HCS := Lib.hid hcs
  have hlt : w.heap.size < W2.heap.size := by omega
  have hltg : g0 < w.heap.size := by omega
  clear hcs ia hA a5
  generalize a.ex = x at *
  go_enter Tryd.func28, Tryd.ntmps28
  go_wp2_with fail
  rw [← hW2]
  refine (HL.out _).mono ?_
  rintro r w1 ⟨rfl, hb1⟩
  have B1 := hb2.trans (hb1.mono hb2.size)
  have hz1 := hb1.size
  have HS := Lib.hid (show ∀ W, Below w1.heap.size w1 W → W.cell? ⟨w.heap.size, 0, none⟩ = some (.int .i64 4) ∧ W.cell? ⟨w.heap.size, 2, none⟩ = some (.string s) ∧ W.cell? ⟨w.heap.size, 3, none⟩ = some (.slice (some ⟨g0, off, none⟩) 1 c) ∧ W.cell? ⟨g0, off, none⟩ = some (.int .i64 x.kind) ∧ W.cell? ⟨g0, off + 1, none⟩ = some (.int .i64 x.n) ∧ W.cell? ⟨g0, off + 2, none⟩ = some (.string x.s) ∧ W.cell? ⟨g0, off + 3, none⟩ = some (.slice D0 x.kids.length cc0) ∧ Below w1.heap.size w1 W from fun W hW =>
    ⟨(hW.cell (p := ⟨w.heap.size, 0, none⟩) (by show w.heap.size < _; omega)).trans ((hb1.cell (p := ⟨w.heap.size, 0, none⟩) hlt).trans (HCS.out 0 _ rfl)),
     (hW.cell (p := ⟨w.heap.size, 2, none⟩) (by show w.heap.size < _; omega)).trans ((hb1.cell (p := ⟨w.heap.size, 2, none⟩) hlt).trans (HCS.out 2 _ rfl)),
     (hW.cell (p := ⟨w.heap.size, 3, none⟩) (by show w.heap.size < _; omega)).trans ((hb1.cell (p := ⟨w.heap.size, 3, none⟩) hlt).trans (HCS.out 3 _ rfl)),
     (hW.cell (p := ⟨g0, off, none⟩) (by show g0 < _; omega)).trans ((B1.cell (p := ⟨g0, off, none⟩) hltg).trans a0),
     (hW.cell (p := ⟨g0, off + 1, none⟩) (by show g0 < _; omega)).trans ((B1.cell (p := ⟨g0, off + 1, none⟩) hltg).trans a1),
     (hW.cell (p := ⟨g0, off + 2, none⟩) (by show g0 < _; omega)).trans ((B1.cell (p := ⟨g0, off + 2, none⟩) hltg).trans a2),
     (hW.cell (p := ⟨g0, off + 3, none⟩) (by show g0 < _; omega)).trans ((B1.cell (p := ⟨g0, off + 3, none⟩) hltg).trans a3), hW⟩)
  obtain ⟨d0, d2, d3, y0, y1, y2, y3, hR⟩ := HS.out w1 (Below.refl _ w1)
  clear hW2 a0 a1 a2 a3
  go_wp2_with fail
  go_region_held3 (fun W => W.cell? ⟨w.heap.size, 0, none⟩ = some (.int .i64 4) ∧ W.cell? ⟨w.heap.size, 2, none⟩ = some (.string s) ∧ W.cell? ⟨w.heap.size, 3, none⟩ = some (.slice (some ⟨g0, off, none⟩) 1 c) ∧ W.cell? ⟨g0, off, none⟩ = some (.int .i64 x.kind) ∧ W.cell? ⟨g0, off + 1, none⟩ = some (.int .i64 x.n) ∧ W.cell? ⟨g0, off + 2, none⟩ = some (.string x.s) ∧ W.cell? ⟨g0, off + 3, none⟩ = some (.slice D0 x.kids.length cc0) ∧ Below w1.heap.size w1 W)
    (first | with_reducible exact HS.out _ (hR.drew) | with_reducible exact HS.out _ b5 | with_reducible exact HS.out _ b4 | with_reducible exact HS.out _ b3 | exact HS.out _ (hR.drew.alloc (Nat.le_refl _) _) | exact HS.out _ (b3.alloc b3.size _) | exact HS.out _ (b4.alloc b4.size _))
    (first | (go_at_call 28; refine (HI.out _ ?below).mono ?_; (case below => (first | exact B1.trans (hR.drew.mono B1.size) | exact (B1.trans (hR.drew.mono B1.size)).alloc B1.size _)); intro r w2 hwd; obtain ⟨gg, cap, rfl, hgg, hgl, hcells, hb3⟩ := wordy_some hlen hwd; have b3 : Below w1.heap.size w1 w2 := (by first | exact hR.drew.trans hb3 | exact (hR.drew.alloc (Nat.le_refl _) _).trans (hb3.mono (by simp)))) | (refine step_append_grows rfl (.tmp 13) (.tmp 18) 33 rfl 9 i0 (.string ByteArray.empty) 1 16 Tryd.underlying33 hi hz0 hz1' hz2 rfl (by decide) (some ⟨w.heap.size + 1, 0, none⟩) 0 0 [] (by simp [Act.eval, Act.put]) (by simp) rfl (by simp) ⟨gg, 0, none⟩ ws.length cap (ws.map strV) (by simp [Act.eval, Act.put]) (by simp) (by first | exact hcells | exact fun j u hj => (World.cell?_alloc_lt _ _ _ (by rw [addr_block]; exact hgl)).trans (hcells j u hj)) (strs_one ws) (by omega) (by unfold maxLen; omega) (by omega) ?_; intro v3 w3 hO3 hg3; obtain ⟨g3, cap3, rfl, hg3b⟩ := own_some hO3 (by omega); have b4 : Below w1.heap.size w1 w3 := (by first | exact b3.grown hg3 b3.size (by simp) | exact (b3.alloc b3.size _).grown hg3 (Nat.le_trans b3.size (by simp)) (by simp))) | (refine step_own rfl (.tmp 19) (.tmp 22) rfl w1.heap.size (.slice (some ⟨g3, 0, none⟩) (0 + ws.length) cap3) (0 + ws.length) ([] ++ ws.map strV) (by simp [Act.eval, Act.put]) (by first | exact ownsRow_lower hO3 b3.size | exact ownsRow_lower hO3 (Nat.le_trans b3.size (by simp)) | exact ownsRow_lower (hO3.alloc _) b3.size) _ 2 2 [strV sAs, strV s] (by simp [Act.eval, Act.put]; first | rfl | done) rfl (by first | exact cell_two_new w3 _ _ _ | exact fun j u hj => (hg3.cell_far _ (by rw [addr_block]; simp) (by simp)).trans (cell_two_new w2 _ _ _ j u hj) | exact fun j u hj => (hg3.cell_far _ (by rw [addr_block]; exact Nat.lt_of_lt_of_le (by simp) hb3.size) (by simp)).trans ((hb3.cell (by rw [addr_block]; simp)).trans (cell_two_new w1 _ _ _ j u hj))) (by intro u hu; simp at hu; rcases hu with rfl | rfl <;> rfl) (by omega) (by first | exact b4.size | exact Nat.le_trans b4.size (by simp)) ?_; intro v5 w5 hO5 hg5; obtain ⟨g5, cap5, rfl, hg5b⟩ := own_some hO5 (by omega); have hk5 : ∀ k, (Value.slice (some ⟨g3, 0, none⟩) (0 + ws.length) cap3).ownBlock = some k → w1.heap.size ≤ k := (fun k e => by obtain rfl : g3 = k := (by simpa [Value.ownBlock] using e); exact Nat.le_trans b3.size (Nat.le_trans (by first | exact Nat.le_refl _ | simp) hg3b)); have b5 : Below w1.heap.size w1 w5 := (by first | exact b4.grown hg5 b4.size hk5 | exact (b4.alloc b4.size _).grown hg5 (Nat.le_trans b4.size (by simp)) hk5)))
  all_goals go_wp2_with fail
  all_goals (refine bodyPost_ret (v := .slice (some ⟨g5, 0, none⟩) (0 + ws.length + 2) cap5) (by simp [results, Tryd.results28, go_sem]) rfl ?_)
  all_goals (rw [HP.out]; exact ⟨_, rfl, by have := ownsRow_lower hO5 B1.size; simpa using this, B1.trans (b5.mono B1.size)⟩)
end Go.Proofs.YtaclndbilpaboaaDoor
