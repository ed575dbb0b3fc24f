/-
  The contract of the model's draw of two places, DrawPosLess, for all codes.
-/
import Derived.Test.YtnpcohbbjfjjaaaDraws
namespace Go.Proofs.Ytnpcohbbjfjjaaa
open Go.RowKit

theorem InCode.alloc {w : World} {A : Option Addr} {len cap : Nat} (h : InCode w A len cap) (o : Obj) : InCode (w.alloc o) A len cap := by
  refine ⟨h.1, h.2.1, ?_⟩
  rcases h.2.2 with h0 | ⟨hh, off, e, hb, hc⟩
  · exact .inl h0
  · refine .inr ⟨hh, off, e, by simp; omega, fun j hj => ?_⟩
    obtain ⟨z, z0, z1, hz⟩ := hc j hj
    exact ⟨z, z0, z1, (World.cell?_alloc_lt w _ ⟨hh, off + j, none⟩ hb).trans hz⟩

theorem Box2.more {W : World} {g : Nat} {t : TypeId} {x y : Value} (h : Box2 W g t x y) (o : Obj) : Box2 (W.alloc o) g t x y := (Below.heap_alloc W o g (Array.getElem?_eq_some_iff.1 h).1).trans h

theorem Box2.other2 {W : World} {h g : Nat} {t : TypeId} {x y : Value} (hx : Box2 W h t x y) (hne : h ≠ g) (a b : Value) : Box2 ((W.setCell ⟨g, 0, none⟩ a).setCell ⟨g, 1, none⟩ b) h t x y :=
  ((Below.heap_setCell _ ⟨g, 1, none⟩ b h hne).trans (Below.heap_setCell W ⟨g, 0, none⟩ a h hne)).trans hx

/-- Two places of a text of three letters a line, three lines, were drawn. -/
def DrawnLess (w : World) (e : Ending) (w' : World) : Prop := ∃ a b c d : Nat, a < 3 ∧ b < 4 ∧ c < 3 ∧ d < 4 ∧ e = .returned (.tuple #[.agg #[.int .i64 (a : Int), .int .i64 (b : Int)], .agg #[.int .i64 (c : Int), .int .i64 (d : Int)]]) ∧ Below w.heap.size w w'

set_option linter.unusedSimpArgs false in
set_option maxRecDepth 100000 in
set_option maxHeartbeats 1000000 in
theorem drawPosLess_any (A : Option Addr) (len cap : Nat) (w : World) (h : InCode w A len cap) :
    Calls Try.prog 32 #[.slice A len cap] w (DrawnLess w) := by
  have HO := Lib.hid (open_any A len cap _ ((h.alloc (.cells #[.int .i64 0, .int .i64 0] 26)).alloc (.cells #[.int .i64 0, .int .i64 0] 26)))
  clear h
  go_enter Try.func32, Try.ntmps32
  go_wp2_with fail
  refine HO.out.mono ?_
  rintro e w1 ⟨A', len', cap', rfl, hrd, hb1⟩
  have hB1 : Below w.heap.size w w1 := (((Below.refl _ w).alloc (Nat.le_refl _) _).alloc (by simp) _).trans (hb1.mono (by simp; omega))
  have bx := ((Box2.new w 26 (.int .i64 0) (.int .i64 0)).more (.cells #[.int .i64 0, .int .i64 0] 26)).below hb1 (by simp; omega)
  have by' := (Box2.new (w.alloc (.cells #[.int .i64 0, .int .i64 0] 26)) 26 (.int .i64 0) (.int .i64 0)).below hb1 (by simp)
  simp only [World.size_alloc] at hrd by'
  have hlt := (Array.getElem?_eq_some_iff.1 by').1
  clear HO hb1
  go_wp2_with fail
  refine (pick_any _ _ _ _ _ 0 3 w1 hrd (by omega) (by omega) (by omega)).mono ?_
  rintro e w2 ⟨v2, hv2, rfl, q2, hq2, hq2', hrd2, hgr2⟩
  go_wp2_with fail
  refine (pick_any _ _ _ _ _ q2 4 w2 hrd2 (by omega) (by omega) (by omega)).mono ?_
  rintro e w3 ⟨v3, hv3, rfl, q3, hq3, hq3', hrd3, hgr3⟩
  have hgr := grown_trans hgr2 hgr3
  have bx3 : Box2 w3 w.heap.size 26 (.int .i64 0) (.int .i64 0) := (hgr.block _ (by omega) (by simp; omega)).trans bx
  have by3 : Box2 w3 (w.heap.size + 1) 26 (.int .i64 0) (.int .i64 0) := (hgr.block _ (by omega) (by simp)).trans by'
  have hB3 : Below w.heap.size w w3 := hB1.trans (grown_below hgr (by omega) (by omega))
  have hlt3 := hrd3.lt
  clear hgr hgr2 hgr3 hrd hrd2 bx by' hB1
  go_wp2_with fail
  have bxa := Box2.new w3 26 (.int .i64 (v2 : Int)) (.int .i64 (v3 : Int))
  have bxW := bx3.more (.cells #[.int .i64 (v2 : Int), .int .i64 (v3 : Int)] 26)
  have byW := by3.more (.cells #[.int .i64 (v2 : Int), .int .i64 (v3 : Int)] 26)
  have hrW := hrd3.alloc (.cells #[.int .i64 (v2 : Int), .int .i64 (v3 : Int)] 26)
  have hBW := hB3.alloc hB3.size (.cells #[.int .i64 (v2 : Int), .int .i64 (v3 : Int)] 26)
  have hsW : (w3.alloc (.cells #[.int .i64 (v2 : Int), .int .i64 (v3 : Int)] 26)).heap.size = w3.heap.size + 1 := by simp
  generalize w3.alloc (.cells #[.int .i64 (v2 : Int), .int .i64 (v3 : Int)] 26) = W at *
  clear bx3 by3 hrd3 hB3
  generalize w3.heap.size = ga at *
  replace hrW : Rd W.drew _ _ _ _ _ _ := hrW
  replace hBW : Below w.heap.size w W.drew := hBW.drew
  replace bxa : Box2 W.drew _ _ _ _ := bxa
  replace bxW : Box2 W.drew _ _ _ _ := bxW
  replace byW : Box2 W.drew _ _ _ _ := byW
  replace hsW : W.drew.heap.size = ga + 1 := hsW
  refine wp_region_noPanic ?_
  refine wp_region_held_drew (S := fun w' => w'.cell? ⟨ga, 0, none⟩ = some (.int .i64 (v2 : Int)) ∧ w'.cell? ⟨ga, 1, none⟩ = some (.int .i64 (v3 : Int))) (by kernel_rfl) ⟨bxa.cell0, bxa.cell1⟩ (fun hHeld => ?_)
  generalize W.drew = X at *
  refine wpAnyH_take (i := 0) (v := ?valF0) rfl (by kernel_rfl) (by kernel_rfl) (by kernel_rfl) (fun _ _ _ h => h) (Or.inl ⟨by rfl, ?yieF0⟩) (by assumption) ?resF0
  case yieF0 =>
    intro w hSw
    try dsimp only at hSw
    go_simp
    try with_reducible rfl
  try simp only [Act.put, List.setIfInBounds_toArray, List.set_cons_zero, List.set_cons_succ, List.getElem_toArray, List.getElem_cons_zero, List.getElem_cons_succ]
  refine wpAnyH_take (i := 1) (v := ?valF1) rfl (by kernel_rfl) (by kernel_rfl) (by kernel_rfl) (fun _ _ _ h => h) (Or.inl ⟨by rfl, ?yieF1⟩) (by assumption) ?resF1
  case yieF1 =>
    intro w hSw
    try dsimp only at hSw
    go_simp
    try with_reducible rfl
  try simp only [Act.put, List.setIfInBounds_toArray, List.set_cons_zero, List.set_cons_succ, List.getElem_toArray, List.getElem_cons_zero, List.getElem_cons_succ]
  refine wpAnyH_take (i := 3) (v := ?valF3) rfl (by kernel_rfl) (by kernel_rfl) (by kernel_rfl) (fun _ _ _ h => h) (Or.inl ⟨by rfl, ?yieF3⟩) (by assumption) ?resF3
  case yieF3 =>
    intro w hSw
    try dsimp only at hSw
    go_simp
    try with_reducible rfl
  try simp only [Act.put, List.setIfInBounds_toArray, List.set_cons_zero, List.set_cons_succ, List.getElem_toArray, List.getElem_cons_zero, List.getElem_cons_succ]
  refine wpAnyH_ready (rs := [2]) (by kernel_rfl) (by simp) ?_
  refine AllReadyH.cons rfl (fun K hK => ?_) AllReadyH.nil
  go_simp
  refine (pick_any _ _ _ _ _ q3 3 _ hrW (by omega) (by omega) (by omega)).mono ?_
  rintro e w4 ⟨v4, hv4, rfl, q4, hq4, hq4', hrd4, hgr4⟩
  have bxa4 : Box2 w4 ga 26 (.int .i64 (v2 : Int)) (.int .i64 (v3 : Int)) := (hgr4.block _ (by omega) (by simp; omega)).trans bxa
  have bx4 : Box2 w4 w.heap.size 26 (.int .i64 0) (.int .i64 0) := (hgr4.block _ (by omega) (by simp; omega)).trans bxW
  have by4 : Box2 w4 (w.heap.size + 1) 26 (.int .i64 0) (.int .i64 0) := (hgr4.block _ (by omega) (by simp)).trans byW
  have hB4 : Below w.heap.size w w4 := hBW.trans (grown_below hgr4 (by omega) (by omega))
  have hlt4 := (Array.getElem?_eq_some_iff.1 bxa4).1
  clear hgr4 bxa bxW byW hBW hrW
  go_wp2_with fail
  refine hK.out _ _ (⟨bxa4.cell0, bxa4.cell1⟩) (fun hHeld => ?_)
  clear hK K
  try simp only [Act.put, List.setIfInBounds_toArray, List.set_cons_zero, List.set_cons_succ, List.getElem_toArray, List.getElem_cons_zero, List.getElem_cons_succ]
  refine wpAnyH_ready (rs := [4]) (by kernel_rfl) (by simp) ?_
  refine AllReadyH.cons rfl (fun K hK => ?_) AllReadyH.nil
  go_simp
  refine (pick_any _ _ _ _ _ q4 4 _ hrd4 (by omega) (by omega) (by omega)).mono ?_
  rintro e w5 ⟨v5, hv5, rfl, q5, hq5, hq5', hrd5, hgr5⟩
  have bxa5 : Box2 w5 ga 26 (.int .i64 (v2 : Int)) (.int .i64 (v3 : Int)) := (hgr5.block _ (by omega) (by simp; omega)).trans bxa4
  have bx5 : Box2 w5 w.heap.size 26 (.int .i64 0) (.int .i64 0) := (hgr5.block _ (by omega) (by simp; omega)).trans bx4
  have by5 : Box2 w5 (w.heap.size + 1) 26 (.int .i64 0) (.int .i64 0) := (hgr5.block _ (by omega) (by simp)).trans by4
  have hB5 : Below w.heap.size w w5 := hB4.trans (grown_below hgr5 (by omega) (by omega))
  clear hgr5 bxa4 bx4 by4 hB4 hrd4 hrd5
  go_wp2_with fail
  refine hK.out _ _ (⟨bxa5.cell0, bxa5.cell1⟩) (fun hHeld => ?_)
  clear hK K
  try simp only [Act.put, List.setIfInBounds_toArray, List.set_cons_zero, List.set_cons_succ, List.getElem_toArray, List.getElem_cons_zero, List.getElem_cons_succ]
  refine wpAnyH_take (i := 5) (v := ?valF5) rfl (by kernel_rfl) (by kernel_rfl) (by kernel_rfl) (fun _ _ _ h => h) (Or.inl ⟨by rfl, ?yieF5⟩) (by assumption) ?resF5
  case yieF5 =>
    intro w hSw
    try dsimp only at hSw
    go_simp
    try with_reducible rfl
  try simp only [Act.put, List.setIfInBounds_toArray, List.set_cons_zero, List.set_cons_succ, List.getElem_toArray, List.getElem_cons_zero, List.getElem_cons_succ]
  have c0 := bx5.cell0
  have c1 := bx5.cell1
  have f0 := bx5.frozen 0
  have f1 := bx5.frozen 1
  refine wpAnyH_ready (rs := [6]) (by kernel_rfl) (by simp) ?_
  refine AllReadyH.cons rfl (fun K hK => ?_) AllReadyH.nil
  go_simp
  have bx6 := bx5.set (.int .i64 (v2 : Int)) (.int .i64 (v3 : Int))
  have by6 := by5.other2 (g := w.heap.size) (by omega) (.int .i64 (v2 : Int)) (.int .i64 (v3 : Int))
  have bxa6 := bxa5.other2 (g := w.heap.size) (by omega) (.int .i64 (v2 : Int)) (.int .i64 (v3 : Int))
  have hB6 := below_set2 hB5 (Nat.le_refl _) (.int .i64 (v2 : Int)) (.int .i64 (v3 : Int))
  clear c0 c1 f0 f1 bx5 by5 bxa5 hB5
  generalize (w5.setCell ⟨w.heap.size, 0, none⟩ (.int .i64 (v2 : Int))).setCell ⟨w.heap.size, 1, none⟩ (.int .i64 (v3 : Int)) = w6 at *
  refine hK.out _ _ (⟨bxa6.cell0, bxa6.cell1⟩) (fun hHeld => ?_)
  clear hK K
  try simp only [Act.put, List.setIfInBounds_toArray, List.set_cons_zero, List.set_cons_succ, List.getElem_toArray, List.getElem_cons_zero, List.getElem_cons_succ]
  have c0 := by6.cell0
  have c1 := by6.cell1
  have f0 := by6.frozen 0
  have f1 := by6.frozen 1
  refine wpAnyH_ready (rs := [7]) (by kernel_rfl) (by simp) ?_
  refine AllReadyH.cons rfl (fun K hK => ?_) AllReadyH.nil
  go_simp
  have by7 := by6.set (.int .i64 (v4 : Int)) (.int .i64 (v5 : Int))
  have bx7 := bx6.other2 (g := w.heap.size + 1) (by omega) (.int .i64 (v4 : Int)) (.int .i64 (v5 : Int))
  have bxa7 := bxa6.other2 (g := w.heap.size + 1) (by omega) (.int .i64 (v4 : Int)) (.int .i64 (v5 : Int))
  have hB7 := below_set2 hB6 (g := w.heap.size + 1) (by omega) (.int .i64 (v4 : Int)) (.int .i64 (v5 : Int))
  clear c0 c1 f0 f1 bx6 by6 bxa6 hB6
  generalize (w6.setCell ⟨w.heap.size + 1, 0, none⟩ (.int .i64 (v4 : Int))).setCell ⟨w.heap.size + 1, 1, none⟩ (.int .i64 (v5 : Int)) = w7 at *
  refine hK.out _ _ (⟨bxa7.cell0, bxa7.cell1⟩) (fun hHeld => ?_)
  clear hK K
  try simp only [Act.put, List.setIfInBounds_toArray, List.set_cons_zero, List.set_cons_succ, List.getElem_toArray, List.getElem_cons_zero, List.getElem_cons_succ]
  refine wpAnyH_done (by kernel_rfl) ?_ _
  refine NoPanic.normal ?_
  go_wp2
  exact bodyPost_ret (v := .tuple #[.agg #[.int .i64 (v2 : Int), .int .i64 (v3 : Int)], .agg #[.int .i64 (v4 : Int), .int .i64 (v5 : Int)]]) (by simp [results, Try.results32, go_sem, bx7.cell0, bx7.cell1, by7.cell0, by7.cell1]) rfl ⟨v2, v3, v4, v5, hv2, hv3, hv4, hv5, rfl, hB7⟩
end Go.Proofs.Ytnpcohbbjfjjaaa
