/-
  The contracts of the model's l6Both and ProgRun.
-/
import Derived.Test.YtabignplhkbcpaaGreatDoorGR
import Derived.Test.YtabignplhkbcpaaGreatDoorSpecOf2
import Derived.Test.YtabignplhkbcpaaGreatDoorSpecProg
import Derived.Test.YtabignplhkbcpaaGreatDoorGQ
import Derived.Test.YtabignplhkbcpaaGreatDoorGM
import Derived.Test.YtabignplhkbcpaaGreatDoorGB
namespace Go.Proofs.YtabignplhkbcpaaGreatDoor
open Go.RowKit

/-- What both of a line come to. -/
def bothD (ss : List ByteArray) (vs : List Int) : De → Int × Int × Bool
  | .noD => (0, 0, false)
  | .letD _ _ p => ((p.of ss vs).getD 0, 0, (p.of ss vs).isSome)
  | .sayD p => ((p.of ss vs).getD 0, 0, (p.of ss vs).isSome)
  | .whenD p q => match p.of ss vs with
    | none => (0, 0, false)
    | some a => (a, (q.of ss vs).getD 0, (q.of ss vs).isSome)
set_option linter.unusedVariables false in
set_option linter.unusedSimpArgs false in
set_option maxRecDepth 100000 in
set_option maxHeartbeats 8000000 in
theorem l6Both_any (d : De) (hd : d.fine = true) (hk : d.st.kind ≠ 0) (A1 A2 An Av : Option Addr) (c1 c2 cn cv B : Nat) (ss : List ByteArray) (vs : List Int) (w : World) (hl : ss.length ≤ 2 ^ 40) (hlen : ss.length = vs.length) (hA1 : KidsAt w B A1 d.st.e.kids) (hA2 : KidsAt w B A2 d.st.t.kids) (hc1 : d.st.e.kids.length ≤ c1) (hc2 : d.st.t.kids.length ≤ c2) (hB : B ≤ w.heap.size) (hN : SlIs w An (ss.map strV)) (hV : SlIs w Av (vs.map intV)) :
    Calls Tryz.prog 24 #[stV d.st A1 A2 c1 c2, .slice An ss.length cn, .slice Av vs.length cv] w fun r w' => r = .returned (.tuple #[.int .i64 (bothD ss vs d).1, .int .i64 (bothD ss vs d).2.1, .bool (bothD ss vs d).2.2]) ∧ Below w.heap.size w w' := by
  cases d with
  | noD => exact absurd rfl hk
  | letD n t p =>
    show Calls Tryz.prog 24 #[.agg #[.int .i64 1, .string n, .string t, .int .i64 p.ex.kind, .int .i64 p.ex.n, .string p.ex.s, .slice A1 p.ex.kids.length c1, .int .i64 0, .int .i64 0, .string ByteArray.empty, .slice A2 0 c2], .slice An ss.length cn, .slice Av vs.length cv] w _
    obtain ⟨W0, hW0⟩ : ∃ W0, W0 = w.alloc (.cells #[.int .i64 1, .string n, .string t, .int .i64 p.ex.kind, .int .i64 p.ex.n, .string p.ex.s, .slice A1 p.ex.kids.length c1, .int .i64 0, .int .i64 0, .string ByteArray.empty, .slice A2 0 c2] 36) := ⟨_, rfl⟩
    have hb0 : Below w.heap.size w W0 := by rw [hW0]; exact (Below.refl _ w).alloc (Nat.le_refl _) _
    have hs0 : w.heap.size < W0.heap.size := by rw [hW0]; simp
    have a0 : W0.cell? ⟨w.heap.size, 0, none⟩ = some (.int .i64 1) := by rw [hW0]; exact cell_marked w _ _ 0 _ rfl
    have a1 : W0.cell? ⟨w.heap.size, 1, none⟩ = some (.string n) := by rw [hW0]; exact cell_marked w _ _ 1 _ rfl
    have a2 : W0.cell? ⟨w.heap.size, 2, none⟩ = some (.string t) := by rw [hW0]; exact cell_marked w _ _ 2 _ rfl
    have a3 : W0.cell? ⟨w.heap.size, 3, none⟩ = some (.int .i64 p.ex.kind) := by rw [hW0]; exact cell_marked w _ _ 3 _ rfl
    have a4 : W0.cell? ⟨w.heap.size, 4, none⟩ = some (.int .i64 p.ex.n) := by rw [hW0]; exact cell_marked w _ _ 4 _ rfl
    have a5 : W0.cell? ⟨w.heap.size, 5, none⟩ = some (.string p.ex.s) := by rw [hW0]; exact cell_marked w _ _ 5 _ rfl
    have a6 : W0.cell? ⟨w.heap.size, 6, none⟩ = some (.slice A1 p.ex.kids.length c1) := by rw [hW0]; exact cell_marked w _ _ 6 _ rfl
    have a7 : W0.cell? ⟨w.heap.size, 7, none⟩ = some (.int .i64 0) := by rw [hW0]; exact cell_marked w _ _ 7 _ rfl
    have a8 : W0.cell? ⟨w.heap.size, 8, none⟩ = some (.int .i64 0) := by rw [hW0]; exact cell_marked w _ _ 8 _ rfl
    have a9 : W0.cell? ⟨w.heap.size, 9, none⟩ = some (.string ByteArray.empty) := by rw [hW0]; exact cell_marked w _ _ 9 _ rfl
    have a10 : W0.cell? ⟨w.heap.size, 10, none⟩ = some (.slice A2 0 c2) := by rw [hW0]; exact cell_marked w _ _ 10 _ rfl
    simp only [De.fine, Bool.and_eq_true] at hd
    have HA := Lib.hid (fun (W : World) (hW : Below W0.heap.size W0 W) => l4Of_any (cn := cn) (cv := cv) hl hlen p (ok_fine hd.2.2) A1 c1 B W (show KidsAt W B A1 p.ex.kids from hA1.keep ((hb0.trans (hW.mono hb0.size)).mono hB)) hc1 (Nat.le_trans hB (Nat.le_trans hb0.size hW.size)) (hN.below (hb0.trans (hW.mono hb0.size))) (hV.below (hb0.trans (hW.mono hb0.size))))
    clear hA1 hA2 hN hV hlen
    unfold Comes at HA
    have HO := Lib.hid (show bothD ss vs (.letD n t p) = ((p.of ss vs).getD 0, 0, (p.of ss vs).isSome) from rfl)
    generalize p.ex = x at *
    generalize p.of ss vs = R at *
    go_enter Tryz.func24, Tryz.ntmps24
    go_wp2_with fail
    rw [← hW0]
    clear hW0
    refine (HA.out W0 (Below.refl _ W0)).mono ?_
    rintro r w1 ⟨rfl, hb1⟩
    have x0 := (hb1.cell (p := ⟨w.heap.size, 0, none⟩) hs0).trans a0
    have x1 := (hb1.cell (p := ⟨w.heap.size, 1, none⟩) hs0).trans a1
    have x2 := (hb1.cell (p := ⟨w.heap.size, 2, none⟩) hs0).trans a2
    have x3 := (hb1.cell (p := ⟨w.heap.size, 3, none⟩) hs0).trans a3
    have x4 := (hb1.cell (p := ⟨w.heap.size, 4, none⟩) hs0).trans a4
    have x5 := (hb1.cell (p := ⟨w.heap.size, 5, none⟩) hs0).trans a5
    have x6 := (hb1.cell (p := ⟨w.heap.size, 6, none⟩) hs0).trans a6
    have x7 := (hb1.cell (p := ⟨w.heap.size, 7, none⟩) hs0).trans a7
    have x8 := (hb1.cell (p := ⟨w.heap.size, 8, none⟩) hs0).trans a8
    have x9 := (hb1.cell (p := ⟨w.heap.size, 9, none⟩) hs0).trans a9
    have x10 := (hb1.cell (p := ⟨w.heap.size, 10, none⟩) hs0).trans a10
    have HX := Lib.hid (hb0.trans (hb1.mono hb0.size))
    clear a0 a1 a2 a3 a4 a5 a6 a7 a8 a9 a10
    cases R with
    | none =>
      simp only [Option.getD_none, Option.isSome_none]
      go_wp2_with fail
      refine bodyPost_ret (v := .tuple #[.int .i64 0, .int .i64 0, .bool false]) (by simp [results, Tryz.results24, go_sem]) rfl ?_
      exact ⟨by rw [HO.out]; rfl, HX.out⟩
    | some z =>
      simp only [Option.getD_some, Option.isSome_some]
      go_wp2_with fail
      refine bodyPost_ret (v := .tuple #[.int .i64 z, .int .i64 0, .bool true]) (by simp [results, Tryz.results24, go_sem]) rfl ?_
      exact ⟨by rw [HO.out]; rfl, HX.out⟩
  | sayD p =>
    show Calls Tryz.prog 24 #[.agg #[.int .i64 2, .string ByteArray.empty, .string ByteArray.empty, .int .i64 p.ex.kind, .int .i64 p.ex.n, .string p.ex.s, .slice A1 p.ex.kids.length c1, .int .i64 0, .int .i64 0, .string ByteArray.empty, .slice A2 0 c2], .slice An ss.length cn, .slice Av vs.length cv] w _
    obtain ⟨W0, hW0⟩ : ∃ W0, W0 = w.alloc (.cells #[.int .i64 2, .string ByteArray.empty, .string ByteArray.empty, .int .i64 p.ex.kind, .int .i64 p.ex.n, .string p.ex.s, .slice A1 p.ex.kids.length c1, .int .i64 0, .int .i64 0, .string ByteArray.empty, .slice A2 0 c2] 36) := ⟨_, rfl⟩
    have hb0 : Below w.heap.size w W0 := by rw [hW0]; exact (Below.refl _ w).alloc (Nat.le_refl _) _
    have hs0 : w.heap.size < W0.heap.size := by rw [hW0]; simp
    have a0 : W0.cell? ⟨w.heap.size, 0, none⟩ = some (.int .i64 2) := by rw [hW0]; exact cell_marked w _ _ 0 _ rfl
    have a1 : W0.cell? ⟨w.heap.size, 1, none⟩ = some (.string ByteArray.empty) := by rw [hW0]; exact cell_marked w _ _ 1 _ rfl
    have a2 : W0.cell? ⟨w.heap.size, 2, none⟩ = some (.string ByteArray.empty) := by rw [hW0]; exact cell_marked w _ _ 2 _ rfl
    have a3 : W0.cell? ⟨w.heap.size, 3, none⟩ = some (.int .i64 p.ex.kind) := by rw [hW0]; exact cell_marked w _ _ 3 _ rfl
    have a4 : W0.cell? ⟨w.heap.size, 4, none⟩ = some (.int .i64 p.ex.n) := by rw [hW0]; exact cell_marked w _ _ 4 _ rfl
    have a5 : W0.cell? ⟨w.heap.size, 5, none⟩ = some (.string p.ex.s) := by rw [hW0]; exact cell_marked w _ _ 5 _ rfl
    have a6 : W0.cell? ⟨w.heap.size, 6, none⟩ = some (.slice A1 p.ex.kids.length c1) := by rw [hW0]; exact cell_marked w _ _ 6 _ rfl
    have a7 : W0.cell? ⟨w.heap.size, 7, none⟩ = some (.int .i64 0) := by rw [hW0]; exact cell_marked w _ _ 7 _ rfl
    have a8 : W0.cell? ⟨w.heap.size, 8, none⟩ = some (.int .i64 0) := by rw [hW0]; exact cell_marked w _ _ 8 _ rfl
    have a9 : W0.cell? ⟨w.heap.size, 9, none⟩ = some (.string ByteArray.empty) := by rw [hW0]; exact cell_marked w _ _ 9 _ rfl
    have a10 : W0.cell? ⟨w.heap.size, 10, none⟩ = some (.slice A2 0 c2) := by rw [hW0]; exact cell_marked w _ _ 10 _ rfl
    have HA := Lib.hid (fun (W : World) (hW : Below W0.heap.size W0 W) => l4Of_any (cn := cn) (cv := cv) hl hlen p (ok_fine hd) A1 c1 B W (show KidsAt W B A1 p.ex.kids from hA1.keep ((hb0.trans (hW.mono hb0.size)).mono hB)) hc1 (Nat.le_trans hB (Nat.le_trans hb0.size hW.size)) (hN.below (hb0.trans (hW.mono hb0.size))) (hV.below (hb0.trans (hW.mono hb0.size))))
    clear hA1 hA2 hN hV hlen
    unfold Comes at HA
    have HO := Lib.hid (show bothD ss vs (.sayD p) = ((p.of ss vs).getD 0, 0, (p.of ss vs).isSome) from rfl)
    generalize p.ex = x at *
    generalize p.of ss vs = R at *
    go_enter Tryz.func24, Tryz.ntmps24
    go_wp2_with fail
    rw [← hW0]
    clear hW0
    refine (HA.out W0 (Below.refl _ W0)).mono ?_
    rintro r w1 ⟨rfl, hb1⟩
    have x0 := (hb1.cell (p := ⟨w.heap.size, 0, none⟩) hs0).trans a0
    have x1 := (hb1.cell (p := ⟨w.heap.size, 1, none⟩) hs0).trans a1
    have x2 := (hb1.cell (p := ⟨w.heap.size, 2, none⟩) hs0).trans a2
    have x3 := (hb1.cell (p := ⟨w.heap.size, 3, none⟩) hs0).trans a3
    have x4 := (hb1.cell (p := ⟨w.heap.size, 4, none⟩) hs0).trans a4
    have x5 := (hb1.cell (p := ⟨w.heap.size, 5, none⟩) hs0).trans a5
    have x6 := (hb1.cell (p := ⟨w.heap.size, 6, none⟩) hs0).trans a6
    have x7 := (hb1.cell (p := ⟨w.heap.size, 7, none⟩) hs0).trans a7
    have x8 := (hb1.cell (p := ⟨w.heap.size, 8, none⟩) hs0).trans a8
    have x9 := (hb1.cell (p := ⟨w.heap.size, 9, none⟩) hs0).trans a9
    have x10 := (hb1.cell (p := ⟨w.heap.size, 10, none⟩) hs0).trans a10
    have HX := Lib.hid (hb0.trans (hb1.mono hb0.size))
    clear a0 a1 a2 a3 a4 a5 a6 a7 a8 a9 a10
    cases R with
    | none =>
      simp only [Option.getD_none, Option.isSome_none]
      go_wp2_with fail
      refine bodyPost_ret (v := .tuple #[.int .i64 0, .int .i64 0, .bool false]) (by simp [results, Tryz.results24, go_sem]) rfl ?_
      exact ⟨by rw [HO.out]; rfl, HX.out⟩
    | some z =>
      simp only [Option.getD_some, Option.isSome_some]
      go_wp2_with fail
      refine bodyPost_ret (v := .tuple #[.int .i64 z, .int .i64 0, .bool true]) (by simp [results, Tryz.results24, go_sem]) rfl ?_
      exact ⟨by rw [HO.out]; rfl, HX.out⟩
  | whenD p q =>
    show Calls Tryz.prog 24 #[.agg #[.int .i64 3, .string ByteArray.empty, .string ByteArray.empty, .int .i64 p.ex.kind, .int .i64 p.ex.n, .string p.ex.s, .slice A1 p.ex.kids.length c1, .int .i64 q.ex.kind, .int .i64 q.ex.n, .string q.ex.s, .slice A2 q.ex.kids.length c2], .slice An ss.length cn, .slice Av vs.length cv] w _
    obtain ⟨W0, hW0⟩ : ∃ W0, W0 = w.alloc (.cells #[.int .i64 3, .string ByteArray.empty, .string ByteArray.empty, .int .i64 p.ex.kind, .int .i64 p.ex.n, .string p.ex.s, .slice A1 p.ex.kids.length c1, .int .i64 q.ex.kind, .int .i64 q.ex.n, .string q.ex.s, .slice A2 q.ex.kids.length c2] 36) := ⟨_, rfl⟩
    have hb0 : Below w.heap.size w W0 := by rw [hW0]; exact (Below.refl _ w).alloc (Nat.le_refl _) _
    have hs0 : w.heap.size < W0.heap.size := by rw [hW0]; simp
    have a0 : W0.cell? ⟨w.heap.size, 0, none⟩ = some (.int .i64 3) := by rw [hW0]; exact cell_marked w _ _ 0 _ rfl
    have a1 : W0.cell? ⟨w.heap.size, 1, none⟩ = some (.string ByteArray.empty) := by rw [hW0]; exact cell_marked w _ _ 1 _ rfl
    have a2 : W0.cell? ⟨w.heap.size, 2, none⟩ = some (.string ByteArray.empty) := by rw [hW0]; exact cell_marked w _ _ 2 _ rfl
    have a3 : W0.cell? ⟨w.heap.size, 3, none⟩ = some (.int .i64 p.ex.kind) := by rw [hW0]; exact cell_marked w _ _ 3 _ rfl
    have a4 : W0.cell? ⟨w.heap.size, 4, none⟩ = some (.int .i64 p.ex.n) := by rw [hW0]; exact cell_marked w _ _ 4 _ rfl
    have a5 : W0.cell? ⟨w.heap.size, 5, none⟩ = some (.string p.ex.s) := by rw [hW0]; exact cell_marked w _ _ 5 _ rfl
    have a6 : W0.cell? ⟨w.heap.size, 6, none⟩ = some (.slice A1 p.ex.kids.length c1) := by rw [hW0]; exact cell_marked w _ _ 6 _ rfl
    have a7 : W0.cell? ⟨w.heap.size, 7, none⟩ = some (.int .i64 q.ex.kind) := by rw [hW0]; exact cell_marked w _ _ 7 _ rfl
    have a8 : W0.cell? ⟨w.heap.size, 8, none⟩ = some (.int .i64 q.ex.n) := by rw [hW0]; exact cell_marked w _ _ 8 _ rfl
    have a9 : W0.cell? ⟨w.heap.size, 9, none⟩ = some (.string q.ex.s) := by rw [hW0]; exact cell_marked w _ _ 9 _ rfl
    have a10 : W0.cell? ⟨w.heap.size, 10, none⟩ = some (.slice A2 q.ex.kids.length c2) := by rw [hW0]; exact cell_marked w _ _ 10 _ rfl
    simp only [De.fine, Bool.and_eq_true] at hd
    have HA := Lib.hid (fun (W : World) (hW : Below W0.heap.size W0 W) => l4Of_any (cn := cn) (cv := cv) hl hlen p (ok_fine hd.1) A1 c1 B W (show KidsAt W B A1 p.ex.kids from hA1.keep ((hb0.trans (hW.mono hb0.size)).mono hB)) hc1 (Nat.le_trans hB (Nat.le_trans hb0.size hW.size)) (hN.below (hb0.trans (hW.mono hb0.size))) (hV.below (hb0.trans (hW.mono hb0.size))))
    have HB := Lib.hid (fun (W : World) (hW : Below W0.heap.size W0 W) => l4Of_any (cn := cn) (cv := cv) hl hlen q (ok_fine hd.2) A2 c2 B W (show KidsAt W B A2 q.ex.kids from hA2.keep ((hb0.trans (hW.mono hb0.size)).mono hB)) hc2 (Nat.le_trans hB (Nat.le_trans hb0.size hW.size)) (hN.below (hb0.trans (hW.mono hb0.size))) (hV.below (hb0.trans (hW.mono hb0.size))))
    clear hA1 hA2 hN hV hlen
    unfold Comes at HA
    unfold Comes at HB
    have HO := Lib.hid (show bothD ss vs (.whenD p q) = (match p.of ss vs with | none => (0, 0, false) | some a => (a, (q.of ss vs).getD 0, (q.of ss vs).isSome)) from rfl)
    generalize p.ex = x at *
    generalize q.ex = y at *
    generalize p.of ss vs = R at *
    generalize q.of ss vs = R2 at *
    go_enter Tryz.func24, Tryz.ntmps24
    go_wp2_with fail
    rw [← hW0]
    clear hW0
    refine (HA.out W0 (Below.refl _ W0)).mono ?_
    rintro r w1 ⟨rfl, hb1⟩
    have x0 := (hb1.cell (p := ⟨w.heap.size, 0, none⟩) hs0).trans a0
    have x1 := (hb1.cell (p := ⟨w.heap.size, 1, none⟩) hs0).trans a1
    have x2 := (hb1.cell (p := ⟨w.heap.size, 2, none⟩) hs0).trans a2
    have x3 := (hb1.cell (p := ⟨w.heap.size, 3, none⟩) hs0).trans a3
    have x4 := (hb1.cell (p := ⟨w.heap.size, 4, none⟩) hs0).trans a4
    have x5 := (hb1.cell (p := ⟨w.heap.size, 5, none⟩) hs0).trans a5
    have x6 := (hb1.cell (p := ⟨w.heap.size, 6, none⟩) hs0).trans a6
    have x7 := (hb1.cell (p := ⟨w.heap.size, 7, none⟩) hs0).trans a7
    have x8 := (hb1.cell (p := ⟨w.heap.size, 8, none⟩) hs0).trans a8
    have x9 := (hb1.cell (p := ⟨w.heap.size, 9, none⟩) hs0).trans a9
    have x10 := (hb1.cell (p := ⟨w.heap.size, 10, none⟩) hs0).trans a10
    have HX := Lib.hid (hb0.trans (hb1.mono hb0.size))
    clear a0 a1 a2 a3 a4 a5 a6 a7 a8 a9 a10
    have HW1 := Lib.hid hb1
    cases R with
    | none =>
      simp only [Option.getD_none, Option.isSome_none]
      go_wp2_with fail
      refine bodyPost_ret (v := .tuple #[.int .i64 0, .int .i64 0, .bool false]) (by simp [results, Tryz.results24, go_sem]) rfl ?_
      exact ⟨by rw [HO.out], HX.out⟩
    | some z =>
      simp only [Option.getD_some, Option.isSome_some]
      go_wp2_with fail
      refine (HB.out w1 HW1.out).mono ?_
      rintro r w2 ⟨rfl, hb2⟩
      go_wp2_with fail
      refine bodyPost_ret (v := .tuple #[.int .i64 z, .int .i64 (R2.getD 0), .bool R2.isSome]) (by simp [results, Tryz.results24, go_sem]) rfl ?_
      exact ⟨by rw [HO.out], HX.out.trans (hb2.mono HX.out.size)⟩
theorem kind_no {d : De} (h : d.st.kind = 0) : d = .noD := by
  cases d with
  | noD => rfl
  | letD n t p => exact absurd (show (1 : Int) = 0 from h) (by decide)
  | sayD p => exact absurd (show (2 : Int) = 0 from h) (by decide)
  | whenD p q => exact absurd (show (3 : Int) = 0 from h) (by decide)
theorem both_says (ss : List ByteArray) (vs : List Int) (d : De) (hk : d.st.kind ≠ 0) :
    ((bothD ss vs d).2.2 = false → saysD ss vs d = none) ∧ ((bothD ss vs d).2.2 = true → (d.st.kind = 1 ∧ saysD ss vs d = some [] ∧ toldS ss d = ss ++ [d.st.name] ∧ toldI ss vs d = vs ++ [(bothD ss vs d).1]) ∨ (d.st.kind = 2 ∧ saysD ss vs d = some [(bothD ss vs d).1] ∧ toldS ss d = ss ∧ toldI ss vs d = vs) ∨ (d.st.kind = 3 ∧ saysD ss vs d = some (if (bothD ss vs d).1 = 0 then [] else [(bothD ss vs d).2.1]) ∧ toldS ss d = ss ∧ toldI ss vs d = vs)) := by
  cases d with
  | noD => exact absurd rfl hk
  | letD n t p =>
    rcases h : p.of ss vs with _ | a
    · have e : bothD ss vs (.letD n t p) = (0, 0, false) := by simp [bothD, h]
      have e2 : saysD ss vs (.letD n t p) = none := by simp [saysD, h]
      rw [e, e2]
      exact ⟨fun _ => rfl, fun h => by cases h⟩
    · have e : bothD ss vs (.letD n t p) = (a, 0, true) := by simp [bothD, h]
      have e2 : saysD ss vs (.letD n t p) = some [] := by simp [saysD, h]
      have e3 : toldI ss vs (.letD n t p) = vs ++ [a] := by simp [toldI, h]
      rw [e, e2, e3]
      exact ⟨fun h => (by cases h), fun _ => .inl ⟨rfl, rfl, rfl, rfl⟩⟩
  | sayD p =>
    rcases h : p.of ss vs with _ | a
    · have e : bothD ss vs (.sayD p) = (0, 0, false) := by simp [bothD, h]
      have e2 : saysD ss vs (.sayD p) = none := by simp [saysD, h]
      rw [e, e2]
      exact ⟨fun _ => rfl, fun h => by cases h⟩
    · have e : bothD ss vs (.sayD p) = (a, 0, true) := by simp [bothD, h]
      have e2 : saysD ss vs (.sayD p) = some [a] := by simp [saysD, h]
      rw [e, e2]
      exact ⟨fun h => (by cases h), fun _ => .inr (.inl ⟨rfl, rfl, rfl, rfl⟩)⟩
  | whenD p q =>
    rcases h : p.of ss vs with _ | a
    · have e : bothD ss vs (.whenD p q) = (0, 0, false) := by simp [bothD, h]
      have e2 : saysD ss vs (.whenD p q) = none := by simp [saysD, h]
      rw [e, e2]
      exact ⟨fun _ => rfl, fun h => by cases h⟩
    · rcases h2 : q.of ss vs with _ | b
      · have e : bothD ss vs (.whenD p q) = (a, 0, false) := by simp [bothD, h, h2]
        have e2 : saysD ss vs (.whenD p q) = none := by simp [saysD, h, h2]
        rw [e, e2]
        exact ⟨fun _ => rfl, fun h => by cases h⟩
      · have e : bothD ss vs (.whenD p q) = (a, b, true) := by simp [bothD, h, h2]
        have e2 : saysD ss vs (.whenD p q) = some (if a = 0 then [] else [b]) := by simp [saysD, h, h2]
        rw [e, e2]
        exact ⟨fun h => (by cases h), fun _ => .inr (.inr ⟨rfl, rfl, rfl, rfl⟩)⟩
/-- Three rows of one's own: what was said, names, and numbers. -/
def Rows3 (B0 : Nat) (W : World) (v4 v5 v6 : Value) (ss : List ByteArray) (vs out : List Int) : Prop :=
  ∃ bo bs bn, RowB W B0 bo 3 v4 (out.map intV) ∧ RowB W B0 bs 9 v5 (ss.map strV) ∧ RowB W B0 bn 3 v6 (vs.map intV) ∧ bo ≠ bs ∧ bo ≠ bn ∧ bs ≠ bn
theorem Rows3.below {B0 : Nat} {W W' : World} {v4 v5 v6 : Value} {ss : List ByteArray} {vs out : List Int} (h : Rows3 B0 W v4 v5 v6 ss vs out) (hb : Below W.heap.size W W') : Rows3 B0 W' v4 v5 v6 ss vs out := by
  obtain ⟨bo, bs, bn, h1, h2, h3, h4⟩ := h
  exact ⟨bo, bs, bn, h1.below hb, h2.below hb, h3.below hb, h4⟩
set_option linter.unusedVariables false in
set_option linter.unusedSimpArgs false in
set_option maxRecDepth 100000 in
set_option maxHeartbeats 16000000 in
theorem specProgRun_any (xs : List St) (A : Option Addr) (c B : Nat) (w : World) (hA : LinesAt w B A xs) (hB : B ≤ w.heap.size) (hwt : stWts xs ≤ 2 ^ 29) :
    Calls Tryz.prog 12 #[.slice A xs.length c] w fun r w' => ∃ v b, r = .returned (.tuple #[v, .bool (runP xs).2]) ∧ RowB w' w.heap.size b 3 v ((runP xs).1.map intV) ∧ Below w.heap.size w w' := by
  obtain ⟨W0, hW0⟩ : ∃ W0, W0 = w.alloc (.cells #[] 3) := ⟨_, rfl⟩
  have hb0 : Below w.heap.size w W0 := by rw [hW0]; exact (Below.refl _ w).alloc (Nat.le_refl _) _
  have HR0 := Lib.hid (show RowB W0 w.heap.size w.heap.size 3 (.slice (some ⟨w.heap.size, 0, none⟩) 0 0) (([] : List Int).map intV) by rw [hW0]; exact rowB_empty w _)
  have HD := Lib.hid (specProgOk_any xs A c B W0 (hA.keep (hb0.mono hB)) (Nat.le_trans hB hb0.size) hwt)
  have HA := Lib.hid hA
  have HB0 := Lib.hid hb0
  have hl : xs.length ≤ 2 ^ 29 := Nat.le_trans (stWts_length xs) hwt
  clear hb0 hA
  cases hds : doP xs with
  | none =>
    rw [hds] at HD
    have HT := Lib.hid (show runP xs = ([], false) by unfold runP; rw [hds])
    simp only [Option.isSome_none] at HD
    clear hds
    go_enter Tryz.func12, Tryz.ntmps12
    go_wp2_with fail
    rw [← hW0]
    clear hW0
    refine HD.out.mono ?_
    rintro r w1 ⟨rfl, hb1⟩
    go_wp2_with fail
    refine bodyPost_ret (v := .tuple #[.slice (some ⟨w.heap.size, 0, none⟩) 0 0, .bool false]) (by simp [results, Tryz.results12, go_sem]) rfl ?_
    rw [HT.out]
    exact ⟨_, _, rfl, HR0.out.below hb1, HB0.out.trans (hb1.mono HB0.out.size)⟩
  | some ds =>
    rw [hds] at HD
    have HT := Lib.hid (show runP xs = runFrom ds [] [] [] by unfold runP; rw [hds])
    have hfin := doP_fine hds
    have h16 : ds.length ≤ 16 := by have h1 := doP_some hds; have h2 := hfin.1; omega
    have HDS := Lib.hid (fun j (h1 : j < xs.length) (h2 : j < ds.length) => ((deedsL_some xs ds).1 (doP_some hds).1).2 j h1 h2)
    have HLN := Lib.hid hfin.1
    simp only [Option.isSome_some] at HD
    clear hds hfin
    go_enter Tryz.func12, Tryz.ntmps12
    go_wp2_with fail
    rw [← hW0]
    clear hW0
    refine HD.out.mono ?_
    rintro r w1 ⟨rfl, hb1⟩
    have R1 := HR0.out.below hb1
    have hz1 : w.heap.size < w1.heap.size := by have := R1.lt; omega
    have HB1 := Lib.hid (HB0.out.trans (hb1.mono HB0.out.size))
    obtain ⟨X, hX⟩ : ∃ X, X = (w1.alloc (.cells #[] 9)).alloc (.cells #[] 3) := ⟨_, rfl⟩
    have hbX : Below w1.heap.size w1 X := by rw [hX]; exact ((Below.refl _ w1).alloc (Nat.le_refl _) _).alloc (by simp) _
    have HRX := Lib.hid (show Rows3 w.heap.size X (.slice (some ⟨w.heap.size, 0, none⟩) 0 0) (.slice (some ⟨w1.heap.size, 0, none⟩) 0 0) (.slice (some ⟨w1.heap.size + 1, 0, none⟩) 0 0) [] [] [] from by
      refine ⟨w.heap.size, w1.heap.size, w1.heap.size + 1, R1.below hbX, ?_, ?_, by omega, by omega, by omega⟩
      · rw [hX]
        exact ((rowB_empty w1 9).base (by omega)).below ((Below.refl _ _).alloc (Nat.le_refl _) _)
      · have h := rowB_empty (w1.alloc (.cells #[] 9)) 3
        rw [World.size_alloc] at h
        rw [hX]
        exact h.base (by omega))
    have HBX := Lib.hid (HB1.out.trans (hbX.mono HB1.out.size))
    clear R1 hbX hb1
    go_wp2_with fail
    rw [← hX]
    clear hX
    go_loopw [4, 5, 6, 7] (fun v4 v5 v6 i wr => ∃ (j : Nat) (ss : List ByteArray) (vs out : List Int), j ≤ xs.length ∧ i = .int .i64 j ∧ Hid (ss.length = vs.length ∧ vs.length ≤ j ∧ out.length ≤ j) ∧ Hid (runFrom (ds.drop j) ss vs out = runFrom ds [] [] []) ∧ Hid (Rows3 w.heap.size wr v4 v5 v6 ss vs out) ∧ Below w.heap.size w wr)
      (fun _ _ _ i _ => xs.length - (intOf i).toNat)
    case atStart => exact ⟨0, [], [], [], Nat.zero_le _, rfl, Lib.hid ⟨rfl, Nat.le_refl _, Nat.le_refl _⟩, Lib.hid rfl, HRX, HBX.out⟩
    case round =>
      obtain ⟨j, ss, vs, out, hj, rfl, HLL, HR, HRW, hbw⟩ := hrel
      obtain ⟨bo, bs, bn, hro, hrs, hrn, hne⟩ := HRW.out
      by_cases hlt : j < xs.length
      · have hltd : j < ds.length := by rw [HLN.out]; exact hlt
        have hx : (j : Int) < (xs.length : Int) := by omega
        obtain ⟨g, off, D1, m1, D2, m2, eA, hg, hC, hk1, hk2⟩ := LinesK.at_ (HA.out.keep (hbw.mono hB)) hlt
        subst eA
        obtain ⟨⟨c0, c1, c2, c3, c4, c5, c6, c7, c8, c9, c10⟩, hm1, hm2⟩ := hC
        have hdo := HDS.out j hlt hltd
        have hst := (doS_some hdo).2.1
        have hfd := (doS_some hdo).1
        have hstep := runFrom_at hltd ss vs out
        rw [← hst] at c0 c1 c2 c3 c4 c5 c6 c7 c8 c9 c10 hk1 hk2 hm1 hm2
        generalize ds[j] = d at *
        obtain ⟨N4, k4, e4, _, _⟩ := hro.slice
        obtain ⟨N5, k5, e5, _, hN5⟩ := hrs.slice
        obtain ⟨N6, k6, e6, _, hN6⟩ := hrn.slice
        rw [List.length_map] at e4 e5 e6
        subst e4 e5 e6
        obtain ⟨V, hV⟩ : ∃ V, V = wr.alloc (.cells #[.int .i64 d.st.kind, .string d.st.name, .string d.st.typ, .int .i64 d.st.e.kind, .int .i64 d.st.e.n, .string d.st.e.s, .slice D1 d.st.e.kids.length m1, .int .i64 d.st.t.kind, .int .i64 d.st.t.n, .string d.st.t.s, .slice D2 d.st.t.kids.length m2] 36) := ⟨_, rfl⟩
        have hbV : Below wr.heap.size wr V := by rw [hV]; exact (Below.refl _ wr).alloc (Nat.le_refl _) _
        have HBV := Lib.hid (show BlkT V wr.heap.size #[.int .i64 d.st.kind, .string d.st.name, .string d.st.typ, .int .i64 d.st.e.kind, .int .i64 d.st.e.n, .string d.st.e.s, .slice D1 d.st.e.kids.length m1, .int .i64 d.st.t.kind, .int .i64 d.st.t.n, .string d.st.t.s, .slice D2 d.st.t.kids.length m2] 36 by rw [hV]; exact blkT_new _ _ _)
        have hbwV := hbw.trans (hbV.mono hbw.size)
        have HWV := Lib.hid hbwV
        have HRV := Lib.hid (HRW.out.below hbV)
        have HF := Lib.hid (fun hk => l6Both_any d hfd hk D1 D2 N5 N6 m1 m2 k5 k6 B ss vs V (by have := HLL.out; omega) HLL.out.1 (hk1.keep ((hbV.mono hbw.size).mono hB)) (hk2.keep ((hbV.mono hbw.size).mono hB)) hm1 hm2 (Nat.le_trans hB hbwV.size) (hN5.below hbV) (hN6.below hbV))
        unfold stV at HF
        have HST := Lib.hid hstep
        clear hstep hdo hst hfd hk1 hk2 hm1 hm2 hN5 hN6 hbV hbwV hro hrs hrn hne hbw
        by_cases hk0 : d.st.kind = 0
        · have qk : (d.st.kind == 0) = true := by simpa using hk0
          have HK := Lib.hid (kind_no hk0)
          clear hk0 HF
          generalize d.st = s at *
          go_wp2_with fail
          rw [← hV]
          go_roundw
          case rel => exact ⟨j + 1, ss, vs, out, by omega, by go_num, Lib.hid ⟨HLL.out.1, by have := HLL.out; omega, by have := HLL.out; omega⟩, Lib.hid (by rw [← HR.out, HST.out, HK.out]; show _ = runFrom _ ss vs (out ++ []); rw [List.append_nil]), HRV, HWV.out⟩
          case measure => simp [intOf]; omega
        have qk : (d.st.kind == 0) = false := by simpa using hk0
        have HC := Lib.hid (HF.out hk0)
        have HBS := Lib.hid (both_says ss vs d hk0)
        clear HF hk0
        generalize (bothD ss vs d).1 = a at *
        generalize (bothD ss vs d).2.1 = b at *
        generalize (bothD ss vs d).2.2 = ok at *
        generalize hso : saysD ss vs d = sy at *
        generalize toldS ss d = ts at *
        generalize toldI ss vs d = ti at *
        clear hso
        generalize d.st = s at *
        go_wp2_with fail
        rw [← hV]
        clear hV
        refine HC.out.mono ?_
        rintro r w2 ⟨rfl, hb2⟩
        have z0 := (HBV.out.below hb2).cell 0
        have z1 := (HBV.out.below hb2).cell 1
        simp only [List.getElem?_toArray, List.getElem?_cons_zero, List.getElem?_cons_succ] at z0 z1
        have hW2 := HWV.out.trans (hb2.mono HWV.out.size)
        obtain ⟨bo, bs, bn, hro, hrs, hrn, hne⟩ := HRV.out.below hb2
        clear c0 c1 c2 c3 c4 c5 c6 c7 c8 c9 c10 HC hb2
        cases ok with
        | false =>
          have HE := Lib.hid (show runP xs = (out, false) by rw [HT.out, ← HR.out, HST.out, HBS.out.1 rfl])
          have HRO := Lib.hid hro
          have HWW := Lib.hid hW2
          clear hro hrs hrn hne hW2
          go_wp2_with fail
          refine bodyPost_ret (v := .tuple #[.slice N4 out.length k4, .bool false]) (by simp [results, Tryz.results12, go_sem]) rfl ?_
          rw [HE.out]
          exact ⟨_, _, rfl, HRO.out, HWW.out⟩
        | true =>
        rcases HBS.out.2 rfl with ⟨hk, hsy, hts, hti⟩ | ⟨hk, hsy, hts, hti⟩ | ⟨hk, hsy, hts, hti⟩
        · have q1 : (s.kind == 1) = true := by simpa using hk
          have HSY := Lib.hid hsy
          have HTS := Lib.hid hts
          have HTI := Lib.hid hti
          clear hk hsy hts hti HBS
          have hbs := hrs.lt
          have hbn := hrn.lt
          have HLO := Lib.hid hro.lt
          have q63 : ss.length ≤ 100000 ∧ vs.length ≤ 100000 := by have := HLL.out; omega
          have HG := Lib.hid (show (w2.alloc (.cells #[.string s.name] 9)).cell? ⟨w2.heap.size, 0, none⟩ = some (.string s.name) from cell_made4 w2 _ _ 0 _ rfl)
          have HRO := Lib.hid (hro.below ((Below.refl w2.heap.size w2).alloc (Nat.le_refl _) (.cells #[.string s.name] 9)))
          have HRS := Lib.hid (hrs.below ((Below.refl w2.heap.size w2).alloc (Nat.le_refl _) (.cells #[.string s.name] 9)))
          have HRN := Lib.hid (hrn.below ((Below.refl w2.heap.size w2).alloc (Nat.le_refl _) (.cells #[.string s.name] 9)))
          have HWW := Lib.hid (hW2.trans (((Below.refl w2.heap.size w2).alloc (Nat.le_refl _) (.cells #[.string s.name] 9)).mono hW2.size))
          have HNE := Lib.hid hne
          clear hro hrs hrn hne hW2
          go_wp2_with (first | (at_builtin; refine wpList_app1S rfl _ _ rfl w.heap.size bs _ ss rfl HRS.out w2.heap.size s.name rfl HG.out (by omega) (by simp <;> omega) ?_; intro v5 w3 bs' r1 g1 o1; have HR1 := Lib.hid r1; have HO1 := Lib.hid o1; have HRO2 := Lib.hid (HRO.out.keep g1 (fun e => HNE.out.1 (by injection e with e; exact e.symm))); have HRN2 := Lib.hid (HRN.out.keep g1 (fun e => HNE.out.2.2 (by injection e))); have HW3 := Lib.hid (HWW.out.trans (HRS.out.grown_below (Nat.le_refl _) g1)); have hz3 := g1.size; rw [World.size_alloc] at hz3; have HG2 := Lib.hid (show (w3.alloc (.cells #[.int .i64 a] 3)).cell? ⟨w3.heap.size, 0, none⟩ = some (.int .i64 a) from cell_made4 w3 _ _ 0 _ rfl); have HR1A := Lib.hid (HR1.out.below ((Below.refl w3.heap.size w3).alloc (Nat.le_refl _) (.cells #[.int .i64 a] 3))); have HROA := Lib.hid (HRO2.out.below ((Below.refl w3.heap.size w3).alloc (Nat.le_refl _) (.cells #[.int .i64 a] 3))); have HRNA := Lib.hid (HRN2.out.below ((Below.refl w3.heap.size w3).alloc (Nat.le_refl _) (.cells #[.int .i64 a] 3))); have HWA := Lib.hid (HW3.out.trans (((Below.refl w3.heap.size w3).alloc (Nat.le_refl _) (.cells #[.int .i64 a] 3)).mono HW3.out.size)); clear r1 g1 o1) | (at_builtin; refine wpList_app1I rfl _ _ rfl w.heap.size bn _ vs rfl HRNA.out w3.heap.size a rfl HG2.out (by omega) (by simp <;> omega) ?_; intro v6 w4 bn' r2 g2 o2; have HR2 := Lib.hid r2; have HG4 := Lib.hid g2; have HO2 := Lib.hid o2; clear r2 g2 o2))
          go_roundw
          case rel =>
            have hbs' : bs' ≠ bn ∧ bo ≠ bs' := by
              rcases HO1.out with h | h
              · rw [h]; exact ⟨HNE.out.2.2, HNE.out.1⟩
              · rw [World.size_alloc] at h; have := HLO.out; omega
            have h1lt := HR1.out.lt
            have h2lt := HRO2.out.lt
            refine ⟨j + 1, ss ++ [s.name], vs ++ [a], out, by omega, by go_num, Lib.hid ⟨by have := HLL.out; simp; omega, by have := HLL.out; simp; omega, by have := HLL.out; omega⟩, Lib.hid (by rw [← HR.out, HST.out, HSY.out, HTS.out, HTI.out]; show _ = runFrom _ _ _ (out ++ []); rw [List.append_nil]), Lib.hid ⟨bo, bs', bn', HROA.out.keep HG4.out (fun e => HNE.out.2.1 (by injection e with e; exact e.symm)), HR1A.out.keep HG4.out (fun e => hbs'.1 (by injection e with e; exact e.symm)), HR2.out, hbs'.2, ?_, ?_⟩, HWA.out.trans (HRNA.out.grown_below (Nat.le_refl _) HG4.out)⟩
            · rcases HO2.out with h | h
              · rw [h]; exact HNE.out.2.1
              · rw [World.size_alloc] at h; omega
            · rcases HO2.out with h | h
              · rw [h]; exact hbs'.1
              · rw [World.size_alloc] at h; omega
          case measure => simp [intOf]; omega
        · have q1 : (s.kind == 1) = false := by rw [hk]; rfl
          have q2 : (s.kind == 2) = true := by rw [hk]; rfl
          have HSY := Lib.hid hsy
          have HTS := Lib.hid hts
          have HTI := Lib.hid hti
          clear hk hsy hts hti HBS
          have HG := Lib.hid (show (w2.alloc (.cells #[.int .i64 a] 3)).cell? ⟨w2.heap.size, 0, none⟩ = some (.int .i64 a) from cell_made4 w2 _ _ 0 _ rfl)
          have HRO := Lib.hid (hro.below ((Below.refl w2.heap.size w2).alloc (Nat.le_refl _) (.cells #[.int .i64 a] 3)))
          have HRS := Lib.hid (hrs.below ((Below.refl w2.heap.size w2).alloc (Nat.le_refl _) (.cells #[.int .i64 a] 3)))
          have HRN := Lib.hid (hrn.below ((Below.refl w2.heap.size w2).alloc (Nat.le_refl _) (.cells #[.int .i64 a] 3)))
          have HWW := Lib.hid (hW2.trans (((Below.refl w2.heap.size w2).alloc (Nat.le_refl _) (.cells #[.int .i64 a] 3)).mono hW2.size))
          have hbo := hro.lt
          have HLS := Lib.hid hrs.lt
          have HLNN := Lib.hid hrn.lt
          have HNE := Lib.hid hne
          have q63 : out.length ≤ 100000 := by have := HLL.out; omega
          clear hro hrs hrn hne hW2
          go_wp2_with (at_builtin; refine wpList_app1I rfl _ _ rfl w.heap.size bo _ out rfl HRO.out w2.heap.size a rfl HG.out (by omega) (by simp <;> omega) ?_; intro v4 w3 bo' r1 g1 o1; have HR1 := Lib.hid r1; have HG1 := Lib.hid g1; have HO1 := Lib.hid o1; clear r1 g1 o1)
          go_roundw
          case rel =>
            refine ⟨j + 1, ss, vs, out ++ [a], by omega, by go_num, Lib.hid ⟨HLL.out.1, by have := HLL.out; omega, by have := HLL.out; simp; omega⟩, Lib.hid (by rw [← HR.out, HST.out, HSY.out, HTS.out, HTI.out]), Lib.hid ⟨bo', bs, bn, HR1.out, HRS.out.keep HG1.out (fun e => HNE.out.1 (by injection e)), HRN.out.keep HG1.out (fun e => HNE.out.2.1 (by injection e)), ?_, ?_, HNE.out.2.2⟩, HWW.out.trans (HRO.out.grown_below (Nat.le_refl _) HG1.out)⟩
            · rcases HO1.out with h | h
              · rw [h]; exact HNE.out.1
              · rw [World.size_alloc] at h; have := HLS.out; omega
            · rcases HO1.out with h | h
              · rw [h]; exact HNE.out.2.1
              · rw [World.size_alloc] at h; have := HLNN.out; omega
          case measure => simp [intOf]; omega
        · have q1 : (s.kind == 1) = false := by rw [hk]; rfl
          have q2 : (s.kind == 2) = false := by rw [hk]; rfl
          have HTS := Lib.hid hts
          have HTI := Lib.hid hti
          by_cases ha : a = 0
          · have q4 : (a != 0) = false := by rw [ha]; rfl
            have HSY := Lib.hid (show sy = some [] by rw [hsy, if_pos ha])
            have HRR := Lib.hid (show Rows3 w.heap.size w2 (.slice N4 out.length k4) (.slice N5 ss.length k5) (.slice N6 vs.length k6) ss vs out from ⟨bo, bs, bn, hro, hrs, hrn, hne⟩)
            have HWW := Lib.hid hW2
            clear hk hsy hts hti HBS ha hro hrs hrn hne hW2
            go_wp2_with fail
            go_roundw
            case rel => exact ⟨j + 1, ss, vs, out, by omega, by go_num, Lib.hid ⟨HLL.out.1, by have := HLL.out; omega, by have := HLL.out; omega⟩, Lib.hid (by rw [← HR.out, HST.out, HSY.out, HTS.out, HTI.out]; show _ = runFrom _ ss vs (out ++ []); rw [List.append_nil]), HRR, HWW.out⟩
            case measure => simp [intOf]; omega
          have q4 : (a != 0) = true := by simpa using ha
          have HSY := Lib.hid (show sy = some [b] by rw [hsy, if_neg ha])
          clear hk hsy hts hti HBS ha
          have HG := Lib.hid (show (w2.alloc (.cells #[.int .i64 b] 3)).cell? ⟨w2.heap.size, 0, none⟩ = some (.int .i64 b) from cell_made4 w2 _ _ 0 _ rfl)
          have HRO := Lib.hid (hro.below ((Below.refl w2.heap.size w2).alloc (Nat.le_refl _) (.cells #[.int .i64 b] 3)))
          have HRS := Lib.hid (hrs.below ((Below.refl w2.heap.size w2).alloc (Nat.le_refl _) (.cells #[.int .i64 b] 3)))
          have HRN := Lib.hid (hrn.below ((Below.refl w2.heap.size w2).alloc (Nat.le_refl _) (.cells #[.int .i64 b] 3)))
          have HWW := Lib.hid (hW2.trans (((Below.refl w2.heap.size w2).alloc (Nat.le_refl _) (.cells #[.int .i64 b] 3)).mono hW2.size))
          have hbo := hro.lt
          have HLS := Lib.hid hrs.lt
          have HLNN := Lib.hid hrn.lt
          have HNE := Lib.hid hne
          have q63 : out.length ≤ 100000 := by have := HLL.out; omega
          clear hro hrs hrn hne hW2
          go_wp2_with (at_builtin; refine wpList_app1I rfl _ _ rfl w.heap.size bo _ out rfl HRO.out w2.heap.size b rfl HG.out (by omega) (by simp <;> omega) ?_; intro v4 w3 bo' r1 g1 o1; have HR1 := Lib.hid r1; have HG1 := Lib.hid g1; have HO1 := Lib.hid o1; clear r1 g1 o1)
          go_roundw
          case rel =>
            refine ⟨j + 1, ss, vs, out ++ [b], by omega, by go_num, Lib.hid ⟨HLL.out.1, by have := HLL.out; omega, by have := HLL.out; simp; omega⟩, Lib.hid (by rw [← HR.out, HST.out, HSY.out, HTS.out, HTI.out]), Lib.hid ⟨bo', bs, bn, HR1.out, HRS.out.keep HG1.out (fun e => HNE.out.1 (by injection e)), HRN.out.keep HG1.out (fun e => HNE.out.2.1 (by injection e)), ?_, ?_, HNE.out.2.2⟩, HWW.out.trans (HRO.out.grown_below (Nat.le_refl _) HG1.out)⟩
            · rcases HO1.out with h | h
              · rw [h]; exact HNE.out.1
              · rw [World.size_alloc] at h; have := HLS.out; omega
            · rcases HO1.out with h | h
              · rw [h]; exact HNE.out.2.1
              · rw [World.size_alloc] at h; have := HLNN.out; omega
          case measure => simp [intOf]; omega
      · have HE := Lib.hid (show runP xs = (out, true) by rw [HT.out, ← HR.out, runFrom_end (by have := HLN.out; omega)])
        obtain ⟨N4, k4, e4, _, _⟩ := hro.slice
        rw [List.length_map] at e4
        subst e4
        have HRO := Lib.hid hro
        clear hro hrs hrn
        go_wp2_with fail
        refine bodyPost_ret (v := .tuple #[.slice N4 out.length k4, .bool true]) (by simp [results, Tryz.results12, go_sem]) rfl ?_
        rw [HE.out]
        exact ⟨_, _, rfl, HRO.out, hbw⟩
end Go.Proofs.YtabignplhkbcpaaGreatDoor
