/-
  The contracts of the model's ExprOf and ExprType, for all that can be read.
-/
import Derived.Test.YtaclndbilpaboaaGreatDoorSpecOf
namespace Go.Proofs.YtaclndbilpaboaaGreatDoor
open Go.RowKit

theorem okE_some {e : Ex} (h : okE e = true) : ∃ p, okP e = some p := by
  cases hp : okP e with
  | none => rw [← okP_isSome, hp] at h; cases h
  | some p => exact ⟨p, rfl⟩
theorem okE_none {e : Ex} (h : okE e = false) : okP e = none := by
  cases hp : okP e with
  | none => rfl
  | some p => rw [← okP_isSome, hp] at h; cases h
theorem kids_le {e : Ex} (hw : e.wt ≤ 2 ^ 40) : e.kids.length ≤ 2 ^ 40 := by
  obtain ⟨k, n, s, ks⟩ := e
  have := Ex.wts_length ks
  simp only [Ex.wt, Ex.kids] at hw ⊢
  omega

set_option maxRecDepth 100000 in
set_option maxHeartbeats 2000000 in
theorem specExprOf_any (e : Ex) (A : Option Addr) (c B : Nat) (An Av : Option Addr) (cn cv : Nat) (ss : List ByteArray) (vs : List Int) (w : World) (hA : KidsAt w B A e.kids) (hc : e.kids.length ≤ c) (hB : B ≤ w.heap.size) (hw : e.wt ≤ 2 ^ 40)
    (hl : ss.length ≤ 2 ^ 40) (_hl2 : vs.length ≤ 2 ^ 40) (hN : SlIs w An (ss.map strV)) (hV : SlIs w Av (vs.map intV)) :
    Calls Tryz.prog 15 #[.agg #[.int .i64 e.kind, .int .i64 e.n, .string e.s, .slice A e.kids.length c], .slice An ss.length cn, .slice Av vs.length cv] w (Comes (ofE e ss vs) w) := by
  have hkl := kids_le hw
  obtain ⟨W0, hW0⟩ : ∃ W0, W0 = w.alloc (.cells #[.int .i64 e.kind, .int .i64 e.n, .string e.s, .slice A e.kids.length c] 31) := ⟨_, rfl⟩
  have hb0 : Below w.heap.size w W0 := by rw [hW0]; exact (Below.refl _ w).alloc (Nat.le_refl _) _
  have hs0 : w.heap.size < W0.heap.size := by rw [hW0]; simp
  have c0 : W0.cell? ⟨w.heap.size, 0, none⟩ = some (.int .i64 e.kind) := by rw [hW0]; exact cell_made4 w _ _ 0 _ rfl
  have c1 : W0.cell? ⟨w.heap.size, 1, none⟩ = some (.int .i64 e.n) := by rw [hW0]; exact cell_made4 w _ _ 1 _ rfl
  have c2 : W0.cell? ⟨w.heap.size, 2, none⟩ = some (.string e.s) := by rw [hW0]; exact cell_made4 w _ _ 2 _ rfl
  have c3 : W0.cell? ⟨w.heap.size, 3, none⟩ = some (.slice A e.kids.length c) := by rw [hW0]; exact cell_made4 w _ _ 3 _ rfl
  have HC := Lib.hid (specExprOk_any e A c B W0 (hA.keep (hb0.mono hB)) hc (Nat.le_trans hB hb0.size) hw)
  cases hok : okE e
  · have HF := Lib.hid (show ofE e ss vs = none by unfold ofE; rw [okE_none hok]; simp)
    rw [hok] at HC
    clear hok hA hN hV
    go_enter Tryz.func15, Tryz.ntmps15
    go_wp2_with fail
    rw [← hW0]
    refine HC.out.mono ?_
    rintro r w1 ⟨rfl, hb1⟩
    go_wp2_with fail
    go_ret2
    exact ⟨by rw [HF.out]; rfl, hb0.trans (hb1.mono hb0.size)⟩
  · obtain ⟨p, hp⟩ := okE_some hok
    rw [hok] at HC
    obtain ⟨rfl, hpok⟩ := okP_some hp
    by_cases hll : ss.length = vs.length
    · have HF := Lib.hid (show ofE p.ex ss vs = p.of ss vs by unfold ofE; rw [if_pos hll, hp]; rfl)
      have q : ((ss.length : Int) != (vs.length : Int)) = false := by rw [hll]; simp
      have HO := Lib.hid (fun (W : World) (hW : Below W0.heap.size W0 W) => l4Of_any (cn := cn) (cv := cv) hl hll p (ok_fine hpok) A c B W ((hA.keep (hb0.mono hB)).keep (hW.mono (Nat.le_trans hB hb0.size))) hc (Nat.le_trans (Nat.le_trans hB hb0.size) hW.size) ((hN.below hb0).below hW) ((hV.below hb0).below hW))
      generalize p.of ss vs = R at *
      clear hok hA hN hV hll hp hpok
      generalize p.ex = e at *
      go_enter Tryz.func15, Tryz.ntmps15
      go_wp2_with fail
      rw [← hW0]
      refine HC.out.mono ?_
      rintro r w1 ⟨rfl, hb1⟩
      have d0 := (hb1.cell (p := ⟨w.heap.size, 0, none⟩) hs0).trans c0
      have d1 := (hb1.cell (p := ⟨w.heap.size, 1, none⟩) hs0).trans c1
      have d2 := (hb1.cell (p := ⟨w.heap.size, 2, none⟩) hs0).trans c2
      have d3 := (hb1.cell (p := ⟨w.heap.size, 3, none⟩) hs0).trans c3
      clear hW0 c0 c1 c2 c3
      go_wp2_with fail
      refine (HO.out w1 hb1).mono ?_
      rintro r w2 ⟨rfl, hb2⟩
      go_wp2_with fail
      go_ret2
      exact ⟨by rw [HF.out]; rfl, hb0.trans ((hb1.trans (hb2.mono hb1.size)).mono hb0.size)⟩
    · have HF := Lib.hid (show ofE p.ex ss vs = none by unfold ofE; rw [if_neg hll])
      have q : ((ss.length : Int) != (vs.length : Int)) = true := by rw [bne_iff_ne]; omega
      clear hok hA hN hV hll hp hpok
      generalize p.ex = e at *
      go_enter Tryz.func15, Tryz.ntmps15
      go_wp2_with fail
      rw [← hW0]
      refine HC.out.mono ?_
      rintro r w1 ⟨rfl, hb1⟩
      go_wp2_with fail
      go_ret2
      exact ⟨by rw [HF.out]; rfl, hb0.trans (hb1.mono hb0.size)⟩
set_option maxRecDepth 100000 in
set_option maxHeartbeats 2000000 in
theorem specExprType_any (e : Ex) (A : Option Addr) (c B : Nat) (An Av : Option Addr) (cn cv : Nat) (ss vs : List ByteArray) (w : World) (hA : KidsAt w B A e.kids) (hc : e.kids.length ≤ c) (hB : B ≤ w.heap.size) (hw : e.wt ≤ 2 ^ 40)
    (hl : ss.length ≤ 2 ^ 40) (hl2 : vs.length ≤ 2 ^ 40) (hN : SlIs w An (ss.map strV)) (hV : SlIs w Av (vs.map strV)) :
    Calls Tryz.prog 9 #[.agg #[.int .i64 e.kind, .int .i64 e.n, .string e.s, .slice A e.kids.length c], .slice An ss.length cn, .slice Av vs.length cv] w (Types (typE e ss vs) w) := by
  have hkl := kids_le hw
  obtain ⟨W0, hW0⟩ : ∃ W0, W0 = w.alloc (.cells #[.int .i64 e.kind, .int .i64 e.n, .string e.s, .slice A e.kids.length c] 31) := ⟨_, rfl⟩
  have hb0 : Below w.heap.size w W0 := by rw [hW0]; exact (Below.refl _ w).alloc (Nat.le_refl _) _
  have hs0 : w.heap.size < W0.heap.size := by rw [hW0]; simp
  have c0 : W0.cell? ⟨w.heap.size, 0, none⟩ = some (.int .i64 e.kind) := by rw [hW0]; exact cell_made4 w _ _ 0 _ rfl
  have c1 : W0.cell? ⟨w.heap.size, 1, none⟩ = some (.int .i64 e.n) := by rw [hW0]; exact cell_made4 w _ _ 1 _ rfl
  have c2 : W0.cell? ⟨w.heap.size, 2, none⟩ = some (.string e.s) := by rw [hW0]; exact cell_made4 w _ _ 2 _ rfl
  have c3 : W0.cell? ⟨w.heap.size, 3, none⟩ = some (.slice A e.kids.length c) := by rw [hW0]; exact cell_made4 w _ _ 3 _ rfl
  have HC := Lib.hid (specExprOk_any e A c B W0 (hA.keep (hb0.mono hB)) hc (Nat.le_trans hB hb0.size) hw)
  cases hok : okE e
  · have HF := Lib.hid (show typE e ss vs = ByteArray.empty by unfold typE; rw [okE_none hok])
    rw [hok] at HC
    clear hok hA hN hV
    go_enter Tryz.func9, Tryz.ntmps9
    go_wp2_with fail
    rw [← hW0]
    refine HC.out.mono ?_
    rintro r w1 ⟨rfl, hb1⟩
    go_wp2_with fail
    go_ret
    exact ⟨by rw [HF.out]; rfl, hb0.trans (hb1.mono hb0.size)⟩
  · obtain ⟨p, hp⟩ := okE_some hok
    rw [hok] at HC
    obtain ⟨rfl, hpok⟩ := okP_some hp
    by_cases hll : ss.length = vs.length
    · have HF := Lib.hid (show typE p.ex ss vs = if vs.all typeB = true then p.typ ss vs else ByteArray.empty by
        unfold typE; rw [hp]; by_cases h : vs.all typeB = true <;> simp [h, hll])
      have q : ((ss.length : Int) != (vs.length : Int)) = false := by rw [hll]; simp
      have HO := Lib.hid (fun (W : World) (hW : Below W0.heap.size W0 W) => l4TypeOf_any (cn := cn) (cv := cv) hl hll p (ok_fine hpok) A c B W ((hA.keep (hb0.mono hB)).keep (hW.mono (Nat.le_trans hB hb0.size))) hc (Nat.le_trans (Nat.le_trans hB hb0.size) hW.size) ((hN.below hb0).below hW) ((hV.below hb0).below hW))
      have HT := Lib.hid l4Type_any
      have HV := Lib.hid (hV.below hb0)
      generalize p.typ ss vs = R at *
      clear hok hA hN hV hll hp hpok
      generalize p.ex = e at *
      go_enter Tryz.func9, Tryz.ntmps9
      go_wp2_with fail
      rw [← hW0]
      refine HC.out.mono ?_
      rintro r w1 ⟨rfl, hb1⟩
      have d0 := (hb1.cell (p := ⟨w.heap.size, 0, none⟩) hs0).trans c0
      have d1 := (hb1.cell (p := ⟨w.heap.size, 1, none⟩) hs0).trans c1
      have d2 := (hb1.cell (p := ⟨w.heap.size, 2, none⟩) hs0).trans c2
      have d3 := (hb1.cell (p := ⟨w.heap.size, 3, none⟩) hs0).trans c3
      clear hW0 c0 c1 c2 c3
      go_wp2_with fail
      go_loop [7] (fun i => ∃ k : Nat, k ≤ vs.length ∧ i = .int .i64 (k : Int) ∧ Hid ((vs.take k).all typeB = true)) (fun i => vs.length - (intOf i).toNat)
      case atStart => exact ⟨0, Nat.zero_le _, rfl, Lib.hid rfl⟩
      case round =>
        obtain ⟨k, hk, rfl, HR⟩ := hrel
        by_cases hlt : k < vs.length
        · obtain ⟨g, off, rfl, hg, hcg⟩ := (HV.out.below hb1).at_ (k := k) (by simpa using hlt)
          simp only [List.getElem_map, strV] at hcg
          have HA2 := Lib.hid (all_take (f := typeB) hlt)
          have HBd := Lib.hid (fun h => all_bad (f := typeB) hlt h)
          generalize vs[k] = t at *
          have hx : (k : Int) < (vs.length : Int) := by omega
          cases hb : typeB t
          · have HE := Lib.hid (show typE e ss vs = ByteArray.empty by rw [HF.out, HBd.out hb]; rfl)
            have HT2 := Lib.hid (HT.out t)
            rw [hb] at HT2
            clear HA2 HBd hb
            go_wp2_with fail
            refine (HT2.out _).mono ?_
            rintro r w2 ⟨rfl, rfl⟩
            go_wp2_with fail
            go_ret
            exact ⟨by rw [HE.out]; rfl, hb0.trans (hb1.mono hb0.size)⟩
          · have HR2 := Lib.hid (show (vs.take (k + 1)).all typeB = true by rw [HA2.out, HR.out, hb]; rfl)
            have HT2 := Lib.hid (HT.out t)
            rw [hb] at HT2
            clear HA2 HBd hb HR
            go_wp2_with fail
            refine (HT2.out _).mono ?_
            rintro r w2 ⟨rfl, rfl⟩
            go_wp2_with fail
            go_round
            case rel => exact ⟨k + 1, by omega, by go_num, HR2⟩
            case measure => simp [intOf]; omega
        · have HE := Lib.hid (show typE e ss vs = R by
            have h := HR.out
            rw [List.take_of_length_le (by omega)] at h
            rw [HF.out, if_pos h])
          clear HR
          go_wp2_with fail
          refine (HO.out w1 hb1).mono ?_
          rintro r w2 ⟨rfl, hb2⟩
          go_wp2_with fail
          go_ret
          exact ⟨by rw [HE.out]; rfl, hb0.trans ((hb1.trans (hb2.mono hb1.size)).mono hb0.size)⟩
    · have HF := Lib.hid (show typE p.ex ss vs = ByteArray.empty by unfold typE; rw [hp]; simp [hll])
      have q : ((ss.length : Int) != (vs.length : Int)) = true := by rw [bne_iff_ne]; omega
      clear hok hA hN hV hll hp hpok
      generalize p.ex = e at *
      go_enter Tryz.func9, Tryz.ntmps9
      go_wp2_with fail
      rw [← hW0]
      refine HC.out.mono ?_
      rintro r w1 ⟨rfl, hb1⟩
      go_wp2_with fail
      go_ret
      exact ⟨by rw [HF.out]; rfl, hb0.trans (hb1.mono hb0.size)⟩
end Go.Proofs.YtaclndbilpaboaaGreatDoor
