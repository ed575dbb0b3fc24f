/-
  The contracts of the model's l7Plain and l7Expr.
-/
import Derived.Test.YtkllhnhinealfaaGreatDoorBaMath
import Derived.Test.YtkllhnhinealfaaGreatDoorSpecMany
namespace Go.Proofs.YtkllhnhinealfaaGreatDoor
open Go.RowKit

mutual
/-- There are no types in it. -/
def Ex.plainE : Ex → Bool
  | .mk k _ _ ks => !(k == 4) && Ex.plains ks
def Ex.plains : List Ex → Bool
  | [] => true
  | e :: es => Ex.plainE e && Ex.plains es
end
theorem Ex.plains_all (ks : List Ex) : Ex.plains ks = ks.all Ex.plainE := by
  induction ks with
  | nil => rfl
  | cons x xs ih => simp only [Ex.plains, List.all_cons, ih]
theorem Ex.plains_take (ks : List Ex) (j : Nat) (h : j < ks.length) : Ex.plains (ks.take (j + 1)) = (Ex.plains (ks.take j) && ks[j].plainE) := by
  rw [Ex.plains_all, Ex.plains_all, List.take_succ_eq_append_getElem h, List.all_append]
  simp
theorem Ex.plains_not (ks : List Ex) (j : Nat) (h : j < ks.length) (hp : ks[j].plainE = false) : Ex.plains ks = false := by
  rw [Ex.plains_all, Bool.eq_false_iff]
  intro h2
  have := List.all_eq_true.1 h2 ks[j] (List.getElem_mem h)
  rw [hp] at this
  cases this
theorem Pt.plain_ex (p : Pt) : p.ex.plainE = p.plain := by
  induction p with
  | num n => rfl
  | name s => rfl
  | two s a b ia ib => simp only [Pt.ex, Ex.plainE, Ex.plains, ia, ib, Pt.plain]; simp
  | «as» s a ia => rfl
def okqE (e : Ex) : Bool := okE e && e.plainE
theorem okqE_iff (e : Ex) : okqE e = (okQ e).isSome := by
  unfold okqE okQ
  cases h : okP e with
  | none => rw [show okE e = false by rw [← okP_isSome, h]; rfl]; rfl
  | some p =>
    rw [show okE e = true by rw [← okP_isSome, h]; rfl, (okP_some h).1, Pt.plain_ex]
    cases hp : p.plain <;> simp [hp]
set_option linter.unusedVariables false in
set_option maxRecDepth 100000 in
set_option maxHeartbeats 4000000 in
theorem l7Plain_any (e : Ex) : ∀ (A : Option Addr) (c B : Nat) (w : World), KidsAt w B A e.kids → e.kids.length ≤ c → B ≤ w.heap.size → e.wt ≤ 2 ^ 40 →
    Calls Tryz.prog 77 #[.agg #[.int .i64 e.kind, .int .i64 e.n, .string e.s, .slice A e.kids.length c]] w fun r w' => r = .returned (.bool e.plainE) ∧ Below w.heap.size w w' := by
  induction e using Ex.ind with
  | h k n s ks ih =>
    intro A c B w hA hc hB hw
    simp only [Ex.kind, Ex.n, Ex.s, Ex.kids, Ex.wt] at hA hc hw ⊢
    have hl : ks.length ≤ 2 ^ 40 := Nat.le_trans (Ex.wts_length ks) (by omega)
    have HA := Lib.hid hA
    have HI := Lib.hid ih
    clear hA ih
    have hb0 : Below w.heap.size w (w.alloc (.cells #[.int .i64 k, .int .i64 n, .string s, .slice A ks.length c] 25)) := (Below.refl _ w).alloc (Nat.le_refl _) _
    by_cases hk : k = 4
    · have q : (k == 4) = true := by rw [beq_iff_eq]; exact hk
      have HF := Lib.hid (show (Ex.mk k n s ks).plainE = false by simp [Ex.plainE, hk])
      clear hk
      go_enter Tryz.func77, Tryz.ntmps77
      go_wp2_with fail
      go_ret
      exact ⟨ret_bool (by rw [HF.out]), hb0⟩
    have q : (k == 4) = false := by rw [beq_eq_false_iff_ne]; exact hk
    have HF := Lib.hid (show (Ex.mk k n s ks).plainE = Ex.plains ks by simp [Ex.plainE, hk])
    clear hk
    go_enter Tryz.func77, Tryz.ntmps77
    go_wp2_with fail
    go_loopw [3] (fun i wr => ∃ j : Nat, j ≤ ks.length ∧ i = .int .i64 j ∧ Hid (Ex.plains (ks.take j) = true) ∧ Below (w.heap.size + 1) (w.alloc (.cells #[.int .i64 k, .int .i64 n, .string s, .slice A ks.length c] 25)) wr)
      (fun i _ => ks.length - (intOf i).toNat)
    case atStart => exact ⟨0, Nat.zero_le _, rfl, Lib.hid rfl, Below.refl _ _⟩
    case round =>
      obtain ⟨j, hj, rfl, HP, hBw⟩ := hrel
      have hc3 : wr.cell? ⟨w.heap.size, 3, none⟩ = some (.slice A ks.length c) := (hBw.cell (p := ⟨w.heap.size, 3, none⟩) (Nat.lt_succ_self _)).trans (cell_made4 w _ _ 3 _ rfl)
      have hBB : Below w.heap.size w wr := ((Below.refl _ w).alloc (Nat.le_refl _) _).trans (hBw.mono (Nat.le_succ _))
      by_cases hlt : j < ks.length
      · obtain ⟨g, off, D, c', eA, hg, kid⟩ := (HA.out.keep (hBB.mono hB)).at_ hlt
        subst eA
        have hkb : ks[j].wt + 1 ≤ Ex.wts ks := Ex.wt_mem (List.getElem_mem _)
        have HT := Lib.hid (Ex.plains_take ks j hlt)
        have HN := Lib.hid (Ex.plains_not ks j hlt)
        have HJ := Lib.hid (HI.out ks[j] (List.getElem_mem _))
        generalize ks[j] = x at *
        obtain ⟨k', n', s', ks'⟩ := x
        obtain ⟨c0, c1, c2, c3, hcc, hkk⟩ := kid
        simp only [Ex.kind, Ex.n, Ex.s, Ex.kids, Ex.wt] at c0 c1 c2 c3 hcc hkk hkb
        have HC := Lib.hid (HJ.out D c' B wr hkk hcc (Nat.le_trans hB hBB.size) (by simp only [Ex.wt]; omega))
        simp only [Ex.kind, Ex.n, Ex.s, Ex.kids] at HC
        have hx : (j : Int) < (ks.length : Int) := by omega
        have hx2 : decide ((j : Int) < (ks.length : Int)) = true := by simpa using hx
        clear hkk hkb HJ
        generalize (Ex.mk k' n' s' ks').plainE = v at *
        go_wp2_with fail
        refine HC.out.mono ?_
        rintro e w1 ⟨rfl, hb1⟩
        clear HC
        have hbb := hBw.trans (hb1.mono (by have := hBw.size; simpa using this))
        have hb1w := hBB.trans (hb1.mono hBB.size)
        cases v with
        | true =>
          go_wp2_with fail
          go_roundw
          case rel => exact ⟨j + 1, by omega, by go_num, Lib.hid (by rw [HT.out, HP.out]; rfl), hbb⟩
          case measure => simp [intOf]; omega
        | false =>
          go_wp2_with fail
          go_ret
          exact ⟨ret_bool (by rw [HF.out]; first | exact (HN.out rfl).symm | exact (HN.out trivial).symm | exact HN.out rfl | exact HN.out trivial), hb1w⟩
      · have hx2 : decide ((j : Int) < (ks.length : Int)) = false := by simp; omega
        have HE := Lib.hid (show Ex.plains ks = true by have h := HP.out; rwa [List.take_of_length_le (by omega)] at h)
        go_wp2_with fail
        go_ret
        exact ⟨ret_bool (by rw [HF.out, HE.out]), hBB⟩
set_option linter.unusedVariables false in
set_option maxRecDepth 100000 in
set_option maxHeartbeats 4000000 in
theorem l7Expr_any (e : Ex) (A : Option Addr) (c B : Nat) (w : World) (hA : KidsAt w B A e.kids) (hc : e.kids.length ≤ c) (hB : B ≤ w.heap.size) (hw : e.wt ≤ 2 ^ 40) :
    Calls Tryz.prog 47 #[.agg #[.int .i64 e.kind, .int .i64 e.n, .string e.s, .slice A e.kids.length c]] w fun r w' => r = .returned (.bool (okqE e)) ∧ Below w.heap.size w w' := by
  obtain ⟨W0, hW0⟩ : ∃ W0, W0 = w.alloc (.cells #[.int .i64 e.kind, .int .i64 e.n, .string e.s, .slice A e.kids.length c] 25) := ⟨_, rfl⟩
  have hb0 : Below w.heap.size w W0 := by rw [hW0]; exact (Below.refl _ w).alloc (Nat.le_refl _) _
  have hl0 : w.heap.size < W0.heap.size := by rw [hW0]; simp
  have a0 : W0.cell? ⟨w.heap.size, 0, none⟩ = some (.int .i64 e.kind) := by rw [hW0]; exact cell_made4 w _ _ 0 _ rfl
  have a1 : W0.cell? ⟨w.heap.size, 1, none⟩ = some (.int .i64 e.n) := by rw [hW0]; exact cell_made4 w _ _ 1 _ rfl
  have a2 : W0.cell? ⟨w.heap.size, 2, none⟩ = some (.string e.s) := by rw [hW0]; exact cell_made4 w _ _ 2 _ rfl
  have a3 : W0.cell? ⟨w.heap.size, 3, none⟩ = some (.slice A e.kids.length c) := by rw [hW0]; exact cell_made4 w _ _ 3 _ rfl
  have HO := Lib.hid (specExprOk_any e A c B W0 (hA.keep (hb0.mono hB)) hc (Nat.le_trans hB hb0.size) hw)
  have HP := Lib.hid (fun (V : World) (hV : Below W0.heap.size W0 V) => l7Plain_any e A c B V (hA.keep ((hb0.trans (hV.mono hb0.size)).mono hB)) hc (Nat.le_trans hB (Nat.le_trans hb0.size hV.size)) hw)
  clear hA hw
  have HF := Lib.hid (show okqE e = (okE e && e.plainE) from rfl)
  generalize okqE e = R at *
  generalize okE e = b at *
  generalize e.plainE = v at *
  cases b with
  | false =>
    go_enter Tryz.func47, Tryz.ntmps47
    go_wp2_with fail
    rw [← hW0]
    clear hW0
    refine HO.out.mono ?_
    rintro r w1 ⟨rfl, hb1⟩
    go_wp2_with fail
    go_ret
    exact ⟨ret_bool (by rw [HF.out]; rfl), hb0.trans (hb1.mono hb0.size)⟩
  | true =>
    go_enter Tryz.func47, Tryz.ntmps47
    go_wp2_with fail
    rw [← hW0]
    clear hW0
    refine HO.out.mono ?_
    rintro r w1 ⟨rfl, hb1⟩
    have x0 := (hb1.cell (p := ⟨w.heap.size, 0, none⟩) hl0).trans a0
    have x1 := (hb1.cell (p := ⟨w.heap.size, 1, none⟩) hl0).trans a1
    have x2 := (hb1.cell (p := ⟨w.heap.size, 2, none⟩) hl0).trans a2
    have x3 := (hb1.cell (p := ⟨w.heap.size, 3, none⟩) hl0).trans a3
    clear a0 a1 a2 a3
    go_wp2_with fail
    refine (HP.out w1 hb1).mono ?_
    rintro r w2 ⟨rfl, hb2⟩
    go_wp2_with fail
    go_ret
    exact ⟨ret_bool (by rw [HF.out]; rfl), hb0.trans ((hb1.mono hb0.size).trans (hb2.mono (Nat.le_trans hb0.size hb1.size)))⟩
end Go.Proofs.YtkllhnhinealfaaGreatDoor
