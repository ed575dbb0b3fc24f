/-
  The contract of the program's barePart: the part of what is ok and has no types in it.
-/
import Derived.Test.YtfknelkbdoiokaaGreatDoorGP
import Derived.Test.YtfknelkbdoiokaaGreatDoorExprOk
import Derived.Test.YtfknelkbdoiokaaGreatDoorMethBare
import Derived.Test.YtfknelkbdoiokaaGreatDoorMethExpr
import Derived.Test.YtfknelkbdoiokaaGreatDoorExprSame
import Derived.BigQuiet
namespace Go.Proofs.YtfknelkbdoiokaaGreatDoor
open Go.RowKit

/-- The part, and whether there is one; whatever, if there is none. -/
def PartQ (e : Ex) (w : World) (r : Ending) (w' : World) : Prop :=
  ∃ v, r = .returned (.tuple #[v, .bool (okQ e).isSome]) ∧ (∀ p, okQ e = some p → v = partV p) ∧ Below w.heap.size w w'
theorem okE_none {e : Ex} (h : okE e = false) : okP e = none := by
  cases hp : okP e with
  | none => rfl
  | some p => rw [← okP_isSome, hp] at h; cases h
theorem okE_some {e : Ex} (h : okE e = true) : ∃ p, okP e = some p := by
  cases hp : okP e with
  | none => rw [← okP_isSome, hp] at h; cases h
  | some p => exact ⟨p, rfl⟩
theorem Pt.nodes_bare (p : Pt) : p.bare.nodes ≤ p.nodes := by
  induction p with
  | num n => exact Nat.le_refl _
  | name s => exact Nat.le_refl _
  | two s a b ia ib => simp only [Pt.bare, Pt.nodes]; omega
  | «as» s a ia => simp only [Pt.bare, Pt.nodes]; omega
set_option linter.unusedVariables false in
set_option maxRecDepth 100000 in
set_option maxHeartbeats 4000000 in
theorem barePart_any (e : Ex) (A : Option Addr) (c B : Nat) (w : World) (hA : KidsU w B A e.kids) (hc : e.kids.length ≤ c) (hB : B ≤ w.heap.size) (hw : e.wt ≤ 2 ^ 29) :
    Calls Tryz.prog 129 #[.agg #[.int .i64 e.kind, .int .i64 e.n, .string e.s, .slice A e.kids.length c]] w (PartQ e w) := by
  obtain ⟨W0, hW0⟩ : ∃ W0, W0 = w.alloc (.cells #[.int .i64 e.kind, .int .i64 e.n, .string e.s, .slice A e.kids.length c] 25) := ⟨_, rfl⟩
  have hb0 : Below w.heap.size w W0 := by rw [hW0]; exact (Below.refl _ w).alloc (Nat.le_refl _) _
  have hl0 : w.heap.size < W0.heap.size := by rw [hW0]; simp
  have a0 : W0.cell? ⟨w.heap.size, 0, none⟩ = some (.int .i64 e.kind) := by rw [hW0]; exact cell_made4 w _ _ 0 _ rfl
  have a1 : W0.cell? ⟨w.heap.size, 1, none⟩ = some (.int .i64 e.n) := by rw [hW0]; exact cell_made4 w _ _ 1 _ rfl
  have a2 : W0.cell? ⟨w.heap.size, 2, none⟩ = some (.string e.s) := by rw [hW0]; exact cell_made4 w _ _ 2 _ rfl
  have a3 : W0.cell? ⟨w.heap.size, 3, none⟩ = some (.slice A e.kids.length c) := by rw [hW0]; exact cell_made4 w _ _ 3 _ rfl
  have HC := Lib.hid (partOf_any e A c B W0 (hA.kids.keep (hb0.mono hB)) hc (Nat.le_trans hB hb0.size) (by omega))
  unfold PartOf at HC
  have HA := Lib.hid hA
  clear hA
  cases hok : okE e with
  | false =>
    have HN := Lib.hid (show okQ e = none by unfold okQ; rw [okE_none hok]; rfl)
    rw [hok] at HC
    clear hok
    go_enter Tryz.func129, Tryz.ntmps129
    go_wp2_with fail
    rw [← hW0]
    clear hW0
    refine HC.out.mono ?_
    rintro r w1 ⟨v, rfl, _, hb1⟩
    go_wp2_with fail
    go_quiet (fail)
    go_wp2_with fail
    go_ret2
    exact ⟨v, by rw [HN.out]; rfl, (fun p h => by rw [HN.out] at h; exact absurd h (by simp)), hb0.trans ((hb1.mono hb0.size).trans ((below_draws _).mono (Nat.le_trans hb0.size hb1.size)))⟩
  | true =>
    obtain ⟨p, hp⟩ := okE_some hok
    have HF := Lib.hid (show okQ e = if sameE p.bare.ex e = true then some p else none by
      have h2 := (okP_some hp).1
      subst h2
      unfold okQ
      rw [hp, Pt.same_bare]
      rfl)
    have hn : p.bare.ex.nodes ≤ 2 ^ 30 := by
      have h1 := (okP_some hp).2
      simp only [Pt.ok, Bool.and_eq_true, decide_eq_true_eq] at h1
      have h2 := h1.2.2
      have h3 := p.nodes_bare
      rw [Pt.nodes_ex]
      omega
    rw [hok] at HC
    clear hok
    go_enter Tryz.func129, Tryz.ntmps129
    go_wp2_with fail
    rw [← hW0]
    clear hW0
    refine HC.out.mono ?_
    rintro r X ⟨v, rfl, hv, hb1⟩
    obtain rfl := hv p hp
    have HV := Lib.hid (show partV p = .iface (ptT p) (ptU p) from partV_at p)
    obtain ⟨m1, n1, k1⟩ := meth_bare p
    obtain ⟨m2, n2, k2⟩ := meth_expr p.bare
    have HBA := Lib.hid (fun V => bare_any p V)
    have HEX := Lib.hid (fun V => expr_any p.bare V)
    have hbX := hb0.trans (hb1.mono hb0.size)
    have hlX : w.heap.size < X.heap.size := Nat.lt_of_lt_of_le hl0 hb1.size
    have HSS := Lib.hid (fun (V : World) (X1 : Option Addr) (k1 : Nat) (hV : Below X.heap.size X V) (h1 : KidsU V V.heap.size X1 p.bare.ex.kids) (h3 : p.bare.ex.kids.length ≤ k1) =>
      exprSame_any p.bare.ex e X1 A k1 c V.heap.size V h1 ((HA.out.keep ((hbX.trans (hV.mono hbX.size)).mono hB)).wide (Nat.le_trans hB (Nat.le_trans hbX.size hV.size))) h3 hc (Nat.le_refl _) hn)
    have e0 := (hb1.cell (p := ⟨w.heap.size, 0, none⟩) hl0).trans a0
    have e1 := (hb1.cell (p := ⟨w.heap.size, 1, none⟩) hl0).trans a1
    have e2 := (hb1.cell (p := ⟨w.heap.size, 2, none⟩) hl0).trans a2
    have e3 := (hb1.cell (p := ⟨w.heap.size, 3, none⟩) hl0).trans a3
    rw [partV_at p]
    rw [partV_at p] at HV
    rw [partV_at p.bare] at HBA
    have HOU := Lib.hid (fun (V : World) (A : Option Addr) (lo hi : Nat) (h : OwnE V p.bare.ex lo hi A) (hh : hi ≤ V.heap.size) => own_kidsU p.bare.ex lo hi A V.heap.size h hh)
    have HPV := Lib.hid (show ∀ q, okQ e = some q → Value.iface (ptT p) (ptU p) = partV q from fun q hq => by
      have h1 := HF.out
      rw [hq] at h1
      split at h1
      · cases h1; exact (partV_at p).symm
      · cases h1)
    have HI := Lib.hid (show (okQ e).isSome = sameE p.bare.ex e by
      rw [HF.out]
      cases sameE p.bare.ex e <;> rfl)
    generalize ptT p.bare = t2 at *
    generalize ptU p.bare = u2 at *
    generalize fExpr p.bare = f2 at *
    generalize p.bare.ex = x at *
    generalize ptT p = t1 at *
    generalize ptU p = u1 at *
    generalize fBare p = f1 at *
    clear HC hv hp HF hn HV a0 a1 a2 a3 hw
    go_wp2_with fail
    go_region_held3 (fun w' => w'.cell? ⟨w.heap.size, 0, none⟩ = some (.int .i64 e.kind) ∧ w'.cell? ⟨w.heap.size, 1, none⟩ = some (.int .i64 e.n) ∧ w'.cell? ⟨w.heap.size, 2, none⟩ = some (.string e.s) ∧ w'.cell? ⟨w.heap.size, 3, none⟩ = some (.slice A e.kids.length c))
      (first | exact ⟨x0, x1, x2, x3⟩ | exact ⟨y0, y1, y2, y3⟩ | exact ⟨z0, z1, z2, z3⟩ | exact ⟨(cell_drew0 _ _).trans e0, (cell_drew0 _ _).trans e1, (cell_drew0 _ _).trans e2, (cell_drew0 _ _).trans e3⟩)
      (first | (refine (HBA.out _).mono ?_; rintro r w1 ⟨rfl, hb1'⟩; have hb1 : Below X.heap.size X w1 := (Below.refl _ X).drew.trans hb1'; have z0 := (hb1.cell (p := ⟨w.heap.size, 0, none⟩) hlX).trans e0; have z1 := (hb1.cell (p := ⟨w.heap.size, 1, none⟩) hlX).trans e1; have z2 := (hb1.cell (p := ⟨w.heap.size, 2, none⟩) hlX).trans e2; have z3 := (hb1.cell (p := ⟨w.heap.size, 3, none⟩) hlX).trans e3) | (refine (HEX.out _).mono ?_; rintro r w2 ⟨X1, k1, rfl, hk1, hO1, hb2'⟩; have hb2 : Below X.heap.size X w2 := hb1.trans (hb2'.mono hb1.size); have KA := HOU.out w2 X1 _ _ hO1 (Nat.le_refl _); have y0 := (hb2.cell (p := ⟨w.heap.size, 0, none⟩) hlX).trans e0; have y1 := (hb2.cell (p := ⟨w.heap.size, 1, none⟩) hlX).trans e1; have y2 := (hb2.cell (p := ⟨w.heap.size, 2, none⟩) hlX).trans e2; have y3 := (hb2.cell (p := ⟨w.heap.size, 3, none⟩) hlX).trans e3) | (go_at_call 34; refine (HSS.out _ X1 k1 hb2 KA hk1).mono ?_; rintro r w3 ⟨rfl, hb3'⟩; have hb3 : Below X.heap.size X w3 := hb2.trans (hb3'.mono hb2.size); have x0 := (hb3.cell (p := ⟨w.heap.size, 0, none⟩) hlX).trans e0; have x1 := (hb3.cell (p := ⟨w.heap.size, 1, none⟩) hlX).trans e1; have x2 := (hb3.cell (p := ⟨w.heap.size, 2, none⟩) hlX).trans e2; have x3 := (hb3.cell (p := ⟨w.heap.size, 3, none⟩) hlX).trans e3))
    go_wp2_with fail
    go_ret2
    exact ⟨_, by rw [HI.out]; rfl, HPV.out, hbX.trans (hb3.mono hbX.size)⟩
end Go.Proofs.YtfknelkbdoiokaaGreatDoor
