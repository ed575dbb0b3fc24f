/-
  The contracts of the program's methods hold and bare, for all parts.
-/
import Derived.Test.YtaclndbilpaboaaDoorMeth
namespace Go.Proofs.YtaclndbilpaboaaDoor
open Go.RowKit

set_option maxRecDepth 100000 in
set_option maxHeartbeats 1000000 in
theorem hold_any (p : Pt) (w : World) : Calls Tryd.prog (fHold p) #[ptU p] w fun e w' => e = .returned (.int .i64 (p.lvl : Int)) ∧ Below w.heap.size w w' := by
  cases p with
  | num n =>
    show Calls Tryd.prog 111 #[.agg #[.int .i64 n]] w _
    go_enter Tryd.func111, Tryd.ntmps111
    go_wp2_with fail
    go_ret
    exact ⟨rfl, (Below.refl _ w).alloc (Nat.le_refl _) _⟩
  | name s =>
    show Calls Tryd.prog 117 #[.agg #[.string s]] w _
    go_enter Tryd.func117, Tryd.ntmps117
    go_wp2_with fail
    go_ret
    exact ⟨rfl, (Below.refl _ w).alloc (Nat.le_refl _) _⟩
  | two s a b =>
    show Calls Tryd.prog 123 #[.agg #[.string s, partV a, partV b]] w fun e w' => e = .returned (.int .i64 (hold s : Int)) ∧ Below w.heap.size w w'
    generalize partV a = x
    generalize partV b = y
    have HM := Lib.hid (fun W => markHold_any s W)
    generalize hold s = h at *
    go_enter Tryd.func123, Tryd.ntmps123
    go_wp2_with fail
    refine (HM.out _).mono ?_
    rintro e w1 ⟨rfl, rfl⟩
    go_wp2_with fail
    go_ret
    exact ⟨rfl, (Below.refl _ w).alloc (Nat.le_refl _) _⟩
  | «as» s a =>
    show Calls Tryd.prog 130 #[.agg #[.string s, partV a]] w _
    generalize partV a = x
    go_enter Tryd.func130, Tryd.ntmps130
    go_wp2_with fail
    go_ret
    exact ⟨rfl, (Below.refl _ w).alloc (Nat.le_refl _) _⟩
set_option maxRecDepth 100000 in
set_option maxHeartbeats 2000000 in
theorem bare_any (p : Pt) : ∀ w : World, Calls Tryd.prog (fBare p) #[ptU p] w fun e w' => e = .returned (partV p.bare) ∧ Below w.heap.size w w' := by
  induction p with
  | num n =>
    intro w
    show Calls Tryd.prog 108 #[.agg #[.int .i64 n]] w _
    go_enter Tryd.func108, Tryd.ntmps108
    go_wp2_with fail
    go_ret
    exact ⟨rfl, (Below.refl _ w).alloc (Nat.le_refl _) _⟩
  | name s =>
    intro w
    show Calls Tryd.prog 114 #[.agg #[.string s]] w _
    go_enter Tryd.func114, Tryd.ntmps114
    go_wp2_with fail
    go_ret
    exact ⟨rfl, (Below.refl _ w).alloc (Nat.le_refl _) _⟩
  | «as» s a ia =>
    intro w
    show Calls Tryd.prog 127 #[.agg #[.string s, partV a]] w fun e w' => e = .returned (partV a.bare) ∧ Below w.heap.size w w'
    obtain ⟨m1, n1, k1⟩ := meth_bare a
    have HA := Lib.hid ia
    rw [partV_at a]
    generalize ptT a = t1 at *
    generalize ptU a = u1 at *
    generalize fBare a = f1 at *
    generalize partV a.bare = r1 at *
    clear ia
    have hb0 : Below w.heap.size w (w.alloc (.cells #[.string s, .iface t1 u1] 79)) := (Below.refl _ w).alloc (Nat.le_refl _) _
    go_enter Tryd.func127, Tryd.ntmps127
    go_wp2_with fail
    refine (HA.out _).mono ?_
    rintro e w1 ⟨rfl, hb1⟩
    go_wp2_with fail
    go_ret
    exact ⟨rfl, hb0.trans (hb1.mono hb0.size)⟩
  | two s a b ia ib =>
    intro w
    show Calls Tryd.prog 120 #[.agg #[.string s, partV a, partV b]] w fun e w' => e = .returned (.iface 77 (.agg #[.string s, partV a.bare, partV b.bare])) ∧ Below w.heap.size w w'
    obtain ⟨m1, n1, k1⟩ := meth_bare a
    obtain ⟨m2, n2, k2⟩ := meth_bare b
    have HA := Lib.hid ia
    have HB := Lib.hid ib
    rw [partV_at a, partV_at b, partV_at a.bare, partV_at b.bare]
    rw [partV_at a.bare] at HA
    rw [partV_at b.bare] at HB
    generalize ptT a = t1 at *
    generalize ptU a = u1 at *
    generalize fBare a = f1 at *
    generalize ptT a.bare = t3 at *
    generalize ptU a.bare = u3 at *
    generalize ptT b = t2 at *
    generalize ptU b = u2 at *
    generalize fBare b = f2 at *
    generalize ptT b.bare = t4 at *
    generalize ptU b.bare = u4 at *
    clear ia ib
    obtain ⟨W0, hW0⟩ : ∃ W0, W0 = w.alloc (.cells #[.string s, .iface t1 u1, .iface t2 u2] 77) := ⟨_, rfl⟩
    have hb0 : Below w.heap.size w W0 := by rw [hW0]; exact (Below.refl _ w).alloc (Nat.le_refl _) _
    have hs0 : w.heap.size < W0.heap.size := by rw [hW0]; simp
    have c0 : W0.cell? ⟨w.heap.size, 0, none⟩ = some (.string s) := by rw [hW0]; exact cell_made4 w _ _ 0 _ rfl
    have c1 : W0.cell? ⟨w.heap.size, 1, none⟩ = some (.iface t1 u1) := by rw [hW0]; exact cell_made4 w _ _ 1 _ rfl
    have c2 : W0.cell? ⟨w.heap.size, 2, none⟩ = some (.iface t2 u2) := by rw [hW0]; exact cell_made4 w _ _ 2 _ rfl
    go_enter Tryd.func120, Tryd.ntmps120
    go_wp2_with fail
    rw [← hW0]
    clear hW0
    go_region_held3 (fun w' => w'.cell? ⟨w.heap.size, 0, none⟩ = some (.string s) ∧ w'.cell? ⟨w.heap.size, 1, none⟩ = some (.iface t1 u1) ∧ w'.cell? ⟨w.heap.size, 2, none⟩ = some (.iface t2 u2) ∧ Below W0.heap.size W0 w')
      (first | exact ⟨c0, c1, c2, (Below.refl _ W0).drew⟩ | exact ⟨(hb2.cell (p := ⟨w.heap.size, 0, none⟩) hs0).trans c0, (hb2.cell (p := ⟨w.heap.size, 1, none⟩) hs0).trans c1, (hb2.cell (p := ⟨w.heap.size, 2, none⟩) hs0).trans c2, hb2⟩ | exact ⟨(hb1.cell (p := ⟨w.heap.size, 0, none⟩) hs0).trans c0, (hb1.cell (p := ⟨w.heap.size, 1, none⟩) hs0).trans c1, (hb1.cell (p := ⟨w.heap.size, 2, none⟩) hs0).trans c2, hb1⟩)
      (first | (refine (HA.out _).mono ?_; rintro e w1 ⟨rfl, hb1'⟩; have hb1 : Below W0.heap.size W0 w1 := (Below.refl _ W0).drew.trans hb1') | (refine (HB.out _).mono ?_; rintro e w2 ⟨rfl, hb2'⟩; have hb2 : Below W0.heap.size W0 w2 := hb1.trans (hb2'.mono hb1.size)))
    rename_i hh
    go_wp2_with fail
    go_ret
    exact ⟨rfl, hb0.trans (hb2.mono hb0.size)⟩
end Go.Proofs.YtaclndbilpaboaaDoor
