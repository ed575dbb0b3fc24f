/-
  The contracts of the model's ExprOf and ExprType, for all that can be read.
-/
import Derived.Test.YtfknelkbdoiokaaGreatDoorSpecOf
namespace Go.Proofs.YtfknelkbdoiokaaGreatDoor
open Go.RowKit

theorem okE_some {e : Ex} (h : okE e = true) : ∃ p, okP e = some p := by
  cases hp : okP e with
  | none => rw [← okP_isSome, hp] at h; cases h
  | some p => exact ⟨p, rfl⟩
theorem okE_none {e : Ex} (h : okE e = false) : okP e = none := by
  cases hp : okP e with
  | none => rfl
  | some p => rw [← okP_isSome, hp] at h; cases h
theorem kids_le {e : Ex} (hw : e.wt ≤ 2 ^ 40) : e.kids.length ≤ 2 ^ 40 := by
  obtain ⟨k, n, s, ks⟩ := e
  have := Ex.wts_length ks
  simp only [Ex.wt, Ex.kids] at hw ⊢
  omega

set_option maxRecDepth 100000 in
set_option maxHeartbeats 2000000 in
theorem specExprOf_any (e : Ex) (A : Option Addr) (c B : Nat) (An Av : Option Addr) (cn cv : Nat) (ss : List ByteArray) (vs : List Int) (w : World) (hA : KidsAt w B A e.kids) (hc : e.kids.length ≤ c) (hB : B ≤ w.heap.size) (hw : e.wt ≤ 2 ^ 40)
    (hl : ss.length ≤ 2 ^ 40) (_hl2 : vs.length ≤ 2 ^ 40) (hN : SlIs w An (ss.map strV)) (hV : SlIs w Av (vs.map intV)) :
    Calls Tryz.prog 14 #[.agg #[.int .i64 e.kind, .int .i64 e.n, .string e.s, .slice A e.kids.length c], .slice An ss.length cn, .slice Av vs.length cv] w (Comes (ofE e ss vs) w) := by
  have hkl := kids_le hw
  obtain ⟨W0, hW0⟩ : ∃ W0, W0 = w.alloc (.cells #[.int .i64 e.kind, .int .i64 e.n, .string e.s, .slice A e.kids.length c] 25) := ⟨_, rfl⟩
  have hb0 : Below w.heap.size w W0 := by rw [hW0]; exact (Below.refl _ w).alloc (Nat.le_refl _) _
  have hs0 : w.heap.size < W0.heap.size := by rw [hW0]; simp
  have c0 : W0.cell? ⟨w.heap.size, 0, none⟩ = some (.int .i64 e.kind) := by rw [hW0]; exact cell_made4 w _ _ 0 _ rfl
  have c1 : W0.cell? ⟨w.heap.size, 1, none⟩ = some (.int .i64 e.n) := by rw [hW0]; exact cell_made4 w _ _ 1 _ rfl
  have c2 : W0.cell? ⟨w.heap.size, 2, none⟩ = some (.string e.s) := by rw [hW0]; exact cell_made4 w _ _ 2 _ rfl
  have c3 : W0.cell? ⟨w.heap.size, 3, none⟩ = some (.slice A e.kids.length c) := by rw [hW0]; exact cell_made4 w _ _ 3 _ rfl
  have HC := Lib.hid (specExprOk_any e A c B W0 (hA.keep (hb0.mono hB)) hc (Nat.le_trans hB hb0.size) hw)
  cases hok : okE e
  · have HF := Lib.hid (show ofE e ss vs = none by unfold ofE; rw [okE_none hok]; simp)
    rw [hok] at HC
    clear hok hA hN hV
    go_enter Tryz.func14, Tryz.ntmps14
    go_wp2_with fail
    rw [← hW0]
    refine HC.out.mono ?_
    rintro r w1 ⟨rfl, hb1⟩
    go_wp2_with fail
    go_ret2
    exact ⟨by rw [HF.out]; rfl, hb0.trans (hb1.mono hb0.size)⟩
  · obtain ⟨p, hp⟩ := okE_some hok
    rw [hok] at HC
    obtain ⟨rfl, hpok⟩ := okP_some hp
    by_cases hll : ss.length = vs.length
    · have HF := Lib.hid (show ofE p.ex ss vs = p.of ss vs by unfold ofE; rw [if_pos hll, hp]; rfl)
      have q : ((ss.length : Int) != (vs.length : Int)) = false := by rw [hll]; simp
      have HO := Lib.hid (fun (W : World) (hW : Below W0.heap.size W0 W) => l4Of_any (cn := cn) (cv := cv) hl hll p (ok_fine hpok) A c B W ((hA.keep (hb0.mono hB)).keep (hW.mono (Nat.le_trans hB hb0.size))) hc (Nat.le_trans (Nat.le_trans hB hb0.size) hW.size) ((hN.below hb0).below hW) ((hV.below hb0).below hW))
      generalize p.of ss vs = R at *
      clear hok hA hN hV hll hp hpok
      generalize p.ex = e at *
      go_enter Tryz.func14, Tryz.ntmps14
      go_wp2_with fail
      rw [← hW0]
      refine HC.out.mono ?_
      rintro r w1 ⟨rfl, hb1⟩
      have d0 := (hb1.cell (p := ⟨w.heap.size, 0, none⟩) hs0).trans c0
      have d1 := (hb1.cell (p := ⟨w.heap.size, 1, none⟩) hs0).trans c1
      have d2 := (hb1.cell (p := ⟨w.heap.size, 2, none⟩) hs0).trans c2
      have d3 := (hb1.cell (p := ⟨w.heap.size, 3, none⟩) hs0).trans c3
      clear hW0 c0 c1 c2 c3
      go_wp2_with fail
      refine (HO.out w1 hb1).mono ?_
      rintro r w2 ⟨rfl, hb2⟩
      go_wp2_with fail
      go_ret2
      exact ⟨by rw [HF.out]; rfl, hb0.trans ((hb1.trans (hb2.mono hb1.size)).mono hb0.size)⟩
    · have HF := Lib.hid (show ofE p.ex ss vs = none by unfold ofE; rw [if_neg hll])
      have q : ((ss.length : Int) != (vs.length : Int)) = true := by rw [bne_iff_ne]; omega
      clear hok hA hN hV hll hp hpok
      generalize p.ex = e at *
      go_enter Tryz.func14, Tryz.ntmps14
      go_wp2_with fail
      rw [← hW0]
      refine HC.out.mono ?_
      rintro r w1 ⟨rfl, hb1⟩
      go_wp2_with fail
      go_ret2
      exact ⟨by rw [HF.out]; rfl, hb0.trans (hb1.mono hb0.size)⟩
end Go.Proofs.YtfknelkbdoiokaaGreatDoor
