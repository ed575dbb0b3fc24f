/-
  The contract of the model's l4Bare at whatever is no type, and of the model's ExprBare.
-/
import Derived.Test.YtaclndbilpaboaaDoorSpecBare
import Derived.Deep.RegionLaw
namespace Go.Proofs.YtaclndbilpaboaaDoor
open Go.RowKit

set_option linter.unusedSimpArgs false in
set_option maxRecDepth 100000 in
set_option maxHeartbeats 8000000 in
theorem l4Bare_not (p : Pt) (sub : List Pt) (hk4 : (p.ex.kind == 4) = false) (hks : p.ex.kids = sub.map Pt.ex) (hbr : p.bare.ex = .mk p.ex.kind p.ex.n p.ex.s (sub.map (fun q => q.bare.ex))) (hsl : sub.length ≤ 2) (ih : ∀ q ∈ sub, SBare q) : SBare p := by
  intro A c B w hA hc hB
  rw [hbr]
  rw [hks] at hA hc ⊢
  rw [List.length_map] at hc ⊢
  generalize p.ex.kind = kk at *
  generalize p.ex.n = nn at *
  generalize p.ex.s = ss at *
  clear hks hbr
  obtain ⟨Wx, hWx⟩ : ∃ Wx, Wx = ((w.alloc (.cells #[.int .i64 kk, .int .i64 nn, .string ss, .slice A sub.length c] 29)).alloc (.cells #[.int .i64 0, .int .i64 0, .string { data := #[] }, .slice none 0 0] 29)).alloc (.cells #[.int .i64 kk, .int .i64 nn, .string ss, .slice none 0 0] 29) := ⟨_, rfl⟩
  have hbx : Below w.heap.size w Wx := by rw [hWx]; exact (((Below.refl _ w).alloc (Nat.le_refl _) _).alloc (by simp) _).alloc (by simp; omega) _
  have hsx : w.heap.size + 3 ≤ Wx.heap.size := by rw [hWx]; simp
  have hX2 : Blk Wx (w.heap.size + 1 + 1) #[.int .i64 kk, .int .i64 nn, .string ss, .slice none 0 0] := by
    have := World.alloc_heap_new ((w.alloc (.cells #[.int .i64 kk, .int .i64 nn, .string ss, .slice A sub.length c] 29)).alloc (.cells #[.int .i64 0, .int .i64 0, .string { data := #[] }, .slice none 0 0] 29)) (.cells #[.int .i64 kk, .int .i64 nn, .string ss, .slice none 0 0] 29)
    rw [World.size_alloc, World.size_alloc, ← hWx] at this
    exact this
  have hX1 : Blk Wx (w.heap.size + 1) #[.int .i64 0, .int .i64 0, .string { data := #[] }, .slice none 0 0] := by
    have := World.alloc_heap_new (w.alloc (.cells #[.int .i64 kk, .int .i64 nn, .string ss, .slice A sub.length c] 29)) (.cells #[.int .i64 0, .int .i64 0, .string { data := #[] }, .slice none 0 0] 29)
    rw [World.size_alloc] at this
    unfold Blk
    rw [hWx, Below.heap_alloc _ _ _ (by simp)]
    exact this
  have hX0 : Blk Wx w.heap.size #[.int .i64 kk, .int .i64 nn, .string ss, .slice A sub.length c] := by
    have := World.alloc_heap_new w (.cells #[.int .i64 kk, .int .i64 nn, .string ss, .slice A sub.length c] 29)
    unfold Blk
    rw [hWx, Below.heap_alloc _ _ _ (by simp; omega), Below.heap_alloc _ _ _ (by simp)]
    exact this
  have E3 := hX0.cell 3
  simp only [List.getElem?_toArray, List.getElem?_cons_zero, List.getElem?_cons_succ] at E3
  have HA := Lib.hid hA
  have HI := Lib.hid ih
  have HX1 := Lib.hid hX1
  have HX2 := Lib.hid hX2
  have HE3 := Lib.hid E3
  clear hA ih hX0 hX1 hX2 E3
  go_enter Tryd.func32, Tryd.ntmps32
  go_wp2_with fail
  rw [← hWx]
  clear hWx
  go_loopw [4] (fun i wr => ∃ (j : Nat) (ds : List Kd) (v : Value), j ≤ sub.length ∧ i = .int .i64 j ∧ Hid (ds.map (·.1) = (sub.take j).map (fun q => q.bare.ex)) ∧ Hid (wr.ownsRow (w.heap.size + 3) 29 4 v j (rowK ds)) ∧ Hid (Blk wr (w.heap.size + 1 + 1) #[.int .i64 kk, .int .i64 nn, .string ss, v]) ∧ Hid (∀ d ∈ ds, d.1.kids.length ≤ d.2.2 ∧ KidsS wr (fun b => w.heap.size + 3 ≤ b ∧ b < wr.heap.size ∧ some b ≠ v.ownBlock) d.2.1 d.1.kids) ∧ Below (w.heap.size + 2) Wx wr)
    (fun i _ => sub.length - (intOf i).toNat)
  case atStart => exact ⟨0, [], .slice none 0 0, Nat.zero_le _, rfl, rfl, World.ownsRow_nil _ _ _ _, HX2, (fun d hd => by cases hd), Below.refl _ _⟩
  case round =>
    obtain ⟨j, ds, v, hj, rfl, HD, HO, HBo, HKD, hBw⟩ := hrel
    have hzw := hBw.size
    have e3 := (hBw.cell (p := ⟨w.heap.size, 3, none⟩) (by show w.heap.size < _; omega)).trans HE3.out
    have hBB : Below w.heap.size w wr := hbx.trans (hBw.mono (by omega))
    have o0 := HBo.out.cell 0
    have o1 := HBo.out.cell 1
    have o2 := HBo.out.cell 2
    have o3 := HBo.out.cell 3
    simp only [List.getElem?_toArray, List.getElem?_cons_zero, List.getElem?_cons_succ] at o0 o1 o2 o3
    by_cases hlt : j < sub.length
    · obtain ⟨g, off, D, c', rfl, hg, kid⟩ := (HA.out.keep (hBB.mono hB)).at_ (j := j) (by rw [List.length_map]; exact hlt)
      simp only [List.getElem_map] at kid
      have HC := Lib.hid (fun (W : World) (hW : Below wr.heap.size wr W) => HI.out sub[j] (List.getElem_mem hlt) D c' B W (kid.hk.keep (hW.mono (Nat.le_trans hB hBB.size))) kid.hc (Nat.le_trans (Nat.le_trans hB hBB.size) hW.size))
      have HT := Lib.hid (show (sub.take (j + 1)).map (fun q => q.bare.ex) = (sub.take j).map (fun q => q.bare.ex) ++ [sub[j].bare.ex] by rw [List.take_succ_eq_append_getElem hlt, List.map_append]; rfl)
      obtain ⟨k0, k1, k2, k3, hcc, hkk⟩ := kid
      generalize sub[j].ex = x at *
      generalize sub[j].bare.ex = y at *
      have hgw : g < w.heap.size := by omega
      have hgr : g < wr.heap.size := by omega
      have hx : (j : Int) < (sub.length : Int) := by omega
      have hno : v.ownBlock ≠ some (w.heap.size + 1 + 1) := by
        intro e
        have := (HO.out.lt _ e).1
        omega
      have HS := Lib.hid (show ∀ W, Below (w.heap.size + 2) wr W → W.cell? ⟨w.heap.size, 3, none⟩ = some (.slice (some ⟨g, off, none⟩) sub.length c) ∧ W.cell? ⟨g, off + j * 4, none⟩ = some (.int .i64 x.kind) ∧ W.cell? ⟨g, off + j * 4 + 1, none⟩ = some (.int .i64 x.n) ∧ W.cell? ⟨g, off + j * 4 + 2, none⟩ = some (.string x.s) ∧ W.cell? ⟨g, off + j * 4 + 3, none⟩ = some (.slice D x.kids.length c') ∧ Below (w.heap.size + 2) wr W from fun W hW =>
        ⟨(hW.cell (p := ⟨w.heap.size, 3, none⟩) (by show w.heap.size < _; omega)).trans e3, (hW.cell (p := ⟨g, off + j * 4, none⟩) (by show g < _; omega)).trans k0, (hW.cell (p := ⟨g, off + j * 4 + 1, none⟩) (by show g < _; omega)).trans k1, (hW.cell (p := ⟨g, off + j * 4 + 2, none⟩) (by show g < _; omega)).trans k2, (hW.cell (p := ⟨g, off + j * 4 + 3, none⟩) (by show g < _; omega)).trans k3, hW⟩)
      have hwle : w.heap.size + 2 ≤ wr.heap.size := by omega
      clear hkk o0 o1 o2
      go_wp2_with fail
      clear HS
      go_region_law (first | (go_simp; go_at_call 32; refine calls_named ?_; intro Y hY; have hXY : Below wr.heap.size wr Y := (by rw [hY]; first | exact Below.refl _ _ | exact (Below.refl _ _).drew); refine (HC.out Y hXY).mono ?_; rintro r X ⟨A1, c1, rfl, hc1, hK1, hYX⟩; have hXX : Below wr.heap.size wr X := hXY.trans (hYX.mono hXY.size); have BX : Below (w.heap.size + 2) wr X := hXX.mono hwle; have hsX := hXX.size; have hBoX : Blk X (w.heap.size + 1 + 1) #[.int .i64 kk, .int .i64 nn, .string ss, v] := (hXX.block _ HBo.out.lt).trans HBo.out; have p3 : X.cell? ⟨w.heap.size + 1 + 1, 3, none⟩ = some v := hBoX.cell 3; have p3a : ∀ o, (X.alloc o).cell? ⟨w.heap.size + 1 + 1, 3, none⟩ = some v := (fun o => (World.cell?_alloc_lt _ _ _ hBoX.lt).trans p3); have HBX := Lib.hid hBoX; have HK1 := Lib.hid (show KidsS X (fun b => wr.heap.size ≤ b ∧ b < X.heap.size) A1 y.kids from hK1.keep (fun b h => ⟨Nat.le_trans hXY.size h.1, h.2⟩) (fun b _ => rfl)); clear hBoX hK1 hY hYX hXY) | (refine wp_named ?_; intro Z hZ; have hXZ : Below X.heap.size X Z := (by rw [hZ]; exact (Below.refl _ _).alloc (Nat.le_refl _) _); have hblk : Blk Z X.heap.size (kdC (y, A1, c1)).toArray := (by rw [hZ]; exact World.alloc_heap_new X _); have hsZ := hXZ.size; refine step_ownK rfl (.tmp 28) (.tmp 35) rfl (w.heap.size + 3) j v ds (own_belowK (own_belowK HO.out hXX) hXZ) (by simp [Act.eval, Act.put]) X.heap.size 1 (y, A1, c1) hblk (by simp [Act.eval, Act.put]) (by omega) (by omega) ?_; intro g' cap' V hOV hGV horV hgV; have BV : Below (w.heap.size + 2) wr V := (BX.trans (hXZ.mono (Nat.le_trans hwle BX.size))).grown hGV (by omega) (fun q e => Nat.le_trans (by omega) (HO.out.lt q e).1); have hBV : Blk V (w.heap.size + 1 + 1) #[.int .i64 kk, .int .i64 nn, .string ss, v] := (hGV.block _ (by omega) (fun e => hno e.symm)).trans ((hXZ.block _ HBX.out.lt).trans HBX.out); have s3 : V.cell? ⟨w.heap.size + 1 + 1, 3, none⟩ = some v := hBV.cell 3; have f3 := hBV.frozen 3; have HBV := Lib.hid hBV; have HOV := Lib.hid hOV; clear hBV hOV hblk hZ))
      all_goals
        go_wp2_with fail
        go_roundw
        case rel =>
          obtain ⟨wn, hwn⟩ : ∃ wn, wn = V.setCell ⟨w.heap.size + 1 + 1, 3, none⟩ (.slice (some ⟨g', 0, none⟩) (j + 1) cap') := ⟨_, rfl⟩
          have hBn := HBV.out.set 3 (.slice (some ⟨g', 0, none⟩) (j + 1) cap')
          have hsame : ∀ b, b ≠ w.heap.size + 1 + 1 → wn.heap[b]? = V.heap[b]? := fun b hb => by rw [hwn]; exact Below.heap_setCell _ _ _ b hb
          have hzn : wn.heap.size = V.heap.size := by rw [hwn]; simp
          rw [← hwn] at hBn ⊢
          have hzV := hGV.size
          have hloV : w.heap.size + 3 ≤ g' := by
            obtain ⟨A5, c5, e5, _, h5⟩ := ownK_slice HOV.out
            rcases h5 with ⟨_, h6⟩ | ⟨g5, h6, h7, _⟩
            · omega
            · injection e5 with e5
              rw [h6] at e5
              injection e5 with e5
              injection e5 with e5
              omega
          have hstep : ∀ b, w.heap.size + 3 ≤ b → b < X.heap.size → some b ≠ v.ownBlock → wn.heap[b]? = X.heap[b]? := fun b h1 h2 h3 => by
            rw [hsame b (by omega), hGV.block b (by omega) h3]
            exact hXZ.block b h2
          refine ⟨j + 1, ds ++ [(y, A1, c1)], .slice (some ⟨g', 0, none⟩) (j + 1) cap', by omega, by go_num, ?_, ?_, hBn, ?_, ?_⟩
          · show List.map _ _ = _
            rw [HT.out, List.map_append, HD.out]
            rfl
          · show World.ownsRow _ _ _ _ _ _ _
            refine ⟨HOV.out.1, ?_⟩
            rcases HOV.out.2 with ⟨h5, _⟩ | ⟨g5, cap5, cur5, h5, h6, h7, h8⟩
            · cases h5
            · exact .inr ⟨g5, cap5, cur5, h5, h6, (hsame g5 (by omega)).trans h7, h8⟩
          · intro d hd
            rcases List.mem_append.1 hd with hd | hd
            · obtain ⟨q1, q2⟩ := HKD.out d hd
              refine ⟨q1, q2.keep (fun b h => ⟨h.1, by omega, ?_⟩) (fun b h => ?_)⟩
              · intro e
                obtain rfl : b = g' := by simpa [Value.ownBlock] using e
                rcases horV with h9 | h9
                · exact h.2.2 h9
                · omega
              · exact (hstep b h.1 (by omega) h.2.2).trans (hXX.block b h.2.1)
            · obtain rfl : d = (y, A1, c1) := by simpa using hd
              refine ⟨hc1, HK1.out.keep (fun b h => ⟨by omega, by omega, ?_⟩) (fun b h => hstep b (by omega) h.2 ?_)⟩
              · intro e
                obtain rfl : b = g' := by simpa [Value.ownBlock] using e
                rcases horV with h9 | h9
                · have := (HO.out.lt _ h9.symm).2
                  omega
                · omega
              · intro e
                have := (HO.out.lt _ e.symm).2
                omega
          · refine hBw.trans (BV.trans ?_)
            rw [hwn]
            exact (Below.refl _ V).setCell (p := ⟨w.heap.size + 1 + 1, 3, none⟩) (Nat.le_refl _) _
        case measure => simp [intOf]; omega
    · obtain rfl : sub.length = j := by omega
      have hB1 : Blk wr (w.heap.size + 1) #[.int .i64 0, .int .i64 0, .string { data := #[] }, .slice none 0 0] := (hBw.block _ (by omega)).trans HX1.out
      have x0 := hB1.cell 0
      have x1 := hB1.cell 1
      have x2 := hB1.cell 2
      have x3 := hB1.cell 3
      have q0 := hB1.frozen 0
      have q1 := hB1.frozen 1
      have q2 := hB1.frozen 2
      have q3 := hB1.frozen 3
      simp only [List.getElem?_toArray, List.getElem?_cons_zero, List.getElem?_cons_succ] at x0 x1 x2 x3
      obtain ⟨A5, c5, rfl, hc5, h5⟩ := ownK_slice HO.out
      have HBN := Lib.hid (blk_set4 (.int .i64 kk) (.int .i64 nn) (.string ss) (.slice A5 sub.length c5) hB1)
      have hds : ds.length = sub.length := by have := congrArg List.length HD.out; rw [List.take_length, List.length_map, List.length_map] at this; exact this
      have HKF := Lib.hid (show KidsS wr (fun b => w.heap.size + 3 ≤ b ∧ b < wr.heap.size) A5 (ds.map (·.1)) by
        rcases h5 with ⟨h6, h7⟩ | ⟨g5, h6, h7, h8⟩
        · rw [List.eq_nil_of_length_eq_zero (show ds.length = 0 by omega)]
          exact .nil
        · have h9 := HO.out
          rw [h6] at h9 ⊢
          exact kidsS_row h9 hds ⟨h7, h8⟩ (fun d hd => ⟨(HKD.out d hd).1, (HKD.out d hd).2.keep (fun b h => ⟨h.1, h.2.1⟩) (fun _ _ => rfl)⟩))
      rw [HD.out, List.take_length] at HKF
      clear hB1
      go_wp2_with fail
      obtain ⟨wn, hwn⟩ : ∃ wn, wn = (((wr.setCell ⟨w.heap.size + 1, 0, none⟩ (.int .i64 kk)).setCell ⟨w.heap.size + 1, 1, none⟩ (.int .i64 nn)).setCell ⟨w.heap.size + 1, 2, none⟩ (.string ss)).setCell ⟨w.heap.size + 1, 3, none⟩ (.slice A5 sub.length c5) := ⟨_, rfl⟩
      have hBn := HBN.out
      have hsame : ∀ k, k ≠ w.heap.size + 1 → wn.heap[k]? = wr.heap[k]? := fun k hk => by rw [hwn]; exact heap_set4 _ _ _ _ _ _ _ hk
      have hzn : wn.heap.size = wr.heap.size := by rw [hwn]; exact size_set4 _ _ _ _ _ _
      rw [← hwn] at hBn ⊢
      have r0 := hBn.cell 0
      have r1 := hBn.cell 1
      have r2 := hBn.cell 2
      have r3 := hBn.cell 3
      simp only [List.getElem?_toArray, List.getElem?_cons_zero, List.getElem?_cons_succ] at r0 r1 r2 r3
      refine bodyPost_ret (v := .agg #[.int .i64 kk, .int .i64 nn, .string ss, .slice A5 sub.length c5]) (by simp [results, Tryd.results32, go_sem, r0, r1, r2, r3]) rfl ?_
      refine ⟨A5, c5, by simp [Ex.kind, Ex.n, Ex.s, Ex.kids], by simpa [Ex.kids] using hc5, HKF.out.keep (fun b h => ⟨by omega, by omega⟩) (fun b h => hsame b (by omega)), hBB.trans ⟨by rw [hwn]; rfl, by rw [hwn]; rfl, by rw [hwn]; rfl, by omega, fun k hk => hsame k (by omega)⟩⟩

/-- The model gives every part without types. -/
theorem l4Bare_any (p : Pt) : SBare p := by
  induction p with
  | num n => exact l4Bare_not (.num n) [] rfl rfl rfl (by simp) (fun q hq => by cases hq)
  | name s => exact l4Bare_not (.name s) [] rfl rfl rfl (by simp) (fun q hq => by cases hq)
  | two s a b ia ib => exact l4Bare_not (.two s a b) [a, b] rfl rfl rfl (by simp) (fun q hq => by simp at hq; rcases hq with rfl | rfl <;> assumption)
  | «as» s a ia => exact l4Bare_as s a ia
end Go.Proofs.YtaclndbilpaboaaDoor
