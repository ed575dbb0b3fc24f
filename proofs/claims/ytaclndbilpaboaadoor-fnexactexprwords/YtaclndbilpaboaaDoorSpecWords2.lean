/-
  The contract of the model's l4Words.
-/
import Derived.Test.YtaclndbilpaboaaDoorSpecWords
import Derived.Test.YtaclndbilpaboaaDoorExprWords
import Derived.Deep.RegionHeld3
import Derived.Deep.RegionLawGrows
namespace Go.Proofs.YtaclndbilpaboaaDoor
open Go.RowKit

/-- The model writes the words of the part, where it must hold so tight. -/
def SWords (p : Pt) : Prop := ∀ (A : Option Addr) (c B : Nat) (w : World) (tight : Nat), KidsAt w B A p.ex.kids → p.ex.kids.length ≤ c → B ≤ w.heap.size → tight ≤ 4 →
    Calls Tryd.prog 28 #[.agg #[.int .i64 p.ex.kind, .int .i64 p.ex.n, .string p.ex.s, .slice A p.ex.kids.length c], .int .i64 (tight : Int)] w (Wordy (p.at tight) w)

theorem two_new (w : World) (cs : Array Value) : ∃ W2, W2 = (w.alloc (.cells cs 29)).alloc (.cells #[] 9) ∧ Below w.heap.size w W2 ∧ w.heap.size + 1 < W2.heap.size ∧ (∀ j v, cs[j]? = some v → W2.cell? ⟨w.heap.size, j, none⟩ = some v) ∧ W2.ownsRow w.heap.size 9 1 (.slice (some ⟨w.heap.size + 1, 0, none⟩) 0 0) 0 [] := by
  refine ⟨_, rfl, ((Below.refl _ w).alloc (Nat.le_refl _) _).alloc (by simp) _, by simp, fun j v h => ?_, ?_⟩
  · exact (World.cell?_alloc_lt _ _ ⟨w.heap.size, j, none⟩ (by simp)).trans (cell_made4 w _ _ j _ h)
  · have := ownsRow_empty (w.alloc (.cells cs 29)) 9
    rw [World.size_alloc] at this
    exact ownsRow_lower this (by omega)

set_option maxRecDepth 100000 in
set_option maxHeartbeats 1000000 in
theorem l4Words_num (n : Int) (hf : (Pt.num n).fine = true) : SWords (.num n) := by
  intro A c B w tight _ hc _ ht
  have HP := Lib.hid (show (Pt.num n).at tight = [decS n] by
    unfold Pt.at wrapW
    rw [show decide ((Pt.num n).lvl < tight) = false from decide_eq_false (by show ¬ 4 < tight; omega)]
    rfl)
  have HL := Lib.hid (fun W => show Calls Tryd.prog 40 #[.agg #[.int .i64 1, .int .i64 n, .string { data := #[] }, .slice A 0 c]] W (fun e w' => e = .returned (.int .i64 4) ∧ Below W.heap.size W w') from l4Level_any (.num n) hf A 0 c W)
  simp only [Pt.fine, Bool.and_eq_true, decide_eq_true_eq] at hf
  have HD := Lib.hid (fun W => l12Dec_any n W hf.1 hf.2)
  show Calls Tryd.prog 28 #[.agg #[.int .i64 1, .int .i64 n, .string { data := #[] }, .slice A 0 c], .int .i64 (tight : Int)] w (Wordy ((Pt.num n).at tight) w)
  generalize (Pt.num n).at tight = R at *
  generalize decS n = D at *
  have q : decide ((4 : Int) < (tight : Int)) = false := decide_eq_false (by omega)
  obtain ⟨i0, hi, hz0, hz1, hz2⟩ := info_parts infoStr
  obtain ⟨W2, hW2, hb2, hs2, hcs, HO⟩ := two_new w #[.int .i64 1, .int .i64 n, .string { data := #[] }, .slice A 0 c]
  have HO := Lib.hid HO
  have HCS := Lib.hid hcs
  have hlt : w.heap.size < W2.heap.size := by omega
  clear hcs
  go_enter Tryd.func28, Tryd.ntmps28
  go_wp2_with fail
  rw [← hW2]
  refine (HL.out _).mono ?_
  rintro r w1 ⟨rfl, hb1⟩
  have d0 := (hb1.cell (p := ⟨w.heap.size, 0, none⟩) hlt).trans (HCS.out 0 _ rfl)
  have d1 := (hb1.cell (p := ⟨w.heap.size, 1, none⟩) hlt).trans (HCS.out 1 _ rfl)
  have B1 := hb2.trans (hb1.mono hb2.size)
  have O1 := Lib.hid (own_below HO.out hb1)
  clear hW2
  go_wp2_with fail
  refine (HD.out _).mono ?_
  rintro r w2 ⟨rfl, hb3⟩
  have B2 := B1.trans (hb3.mono B1.size)
  have hrow := own_below O1.out hb3
  have hz := B2.size
  go_wp2_with (at_builtin; refine wpList_append_own _ rfl _ _ 33 rfl w.heap.size 9 i0 (.string ByteArray.empty) 1 16 Tryd.underlying33 hi hz0 hz1 hz2 rfl (by decide) _ _ _ rfl (hrow.alloc _) ⟨w2.heap.size, 0, none⟩ 1 1 [.string D] rfl rfl (cell_one_new _ _ _) (by simp [Value.oneCell']) (by unfold maxLen; omega) (by omega) (by simp; omega) ?_; intro v' w3 hown' hgrow _; obtain ⟨g', cap', rfl⟩ := ownsRow_succ hown')
  refine bodyPost_ret (v := .slice (some ⟨g', 0, none⟩) (0 + 1) cap') (by simp [results, Tryd.results28, go_sem]) rfl ?_
  rw [HP.out]
  exact ⟨_, rfl, hown', below_append B2 B2.size hrow hgrow⟩
set_option maxRecDepth 100000 in
set_option maxHeartbeats 1000000 in
theorem l4Words_name (s : ByteArray) (hf : (Pt.name s).fine = true) : SWords (.name s) := by
  intro A c B w tight _ hc _ ht
  have HP := Lib.hid (show (Pt.name s).at tight = [s] by
    unfold Pt.at wrapW
    rw [show decide ((Pt.name s).lvl < tight) = false from decide_eq_false (by show ¬ 4 < tight; omega)]
    rfl)
  have HL := Lib.hid (fun W => show Calls Tryd.prog 40 #[.agg #[.int .i64 2, .int .i64 0, .string s, .slice A 0 c]] W (fun e w' => e = .returned (.int .i64 4) ∧ Below W.heap.size W w') from l4Level_any (.name s) hf A 0 c W)
  show Calls Tryd.prog 28 #[.agg #[.int .i64 2, .int .i64 0, .string s, .slice A 0 c], .int .i64 (tight : Int)] w (Wordy ((Pt.name s).at tight) w)
  generalize (Pt.name s).at tight = R at *
  have q : decide ((4 : Int) < (tight : Int)) = false := decide_eq_false (by omega)
  obtain ⟨i0, hi, hz0, hz1, hz2⟩ := info_parts infoStr
  obtain ⟨W2, hW2, hb2, hs2, hcs, HO⟩ := two_new w #[.int .i64 2, .int .i64 0, .string s, .slice A 0 c]
  have HO := Lib.hid HO
  have HCS := Lib.hid hcs
  have hlt : w.heap.size < W2.heap.size := by omega
  clear hcs
  go_enter Tryd.func28, Tryd.ntmps28
  go_wp2_with fail
  rw [← hW2]
  refine (HL.out _).mono ?_
  rintro r w1 ⟨rfl, hb1⟩
  have d0 := (hb1.cell (p := ⟨w.heap.size, 0, none⟩) hlt).trans (HCS.out 0 _ rfl)
  have d1 := (hb1.cell (p := ⟨w.heap.size, 1, none⟩) hlt).trans (HCS.out 1 _ rfl)
  have d2 := (hb1.cell (p := ⟨w.heap.size, 2, none⟩) hlt).trans (HCS.out 2 _ rfl)
  have B1 := hb2.trans (hb1.mono hb2.size)
  have O1 := Lib.hid (own_below HO.out hb1)
  clear hW2
  have hrow := O1.out
  have hz := B1.size
  go_wp2_with (at_builtin; refine wpList_append_own _ rfl _ _ 33 rfl w.heap.size 9 i0 (.string ByteArray.empty) 1 16 Tryd.underlying33 hi hz0 hz1 hz2 rfl (by decide) _ _ _ rfl (hrow.alloc _) ⟨w1.heap.size, 0, none⟩ 1 1 [.string s] rfl rfl (cell_one_new _ _ _) (by simp [Value.oneCell']) (by unfold maxLen; omega) (by omega) (by simp; omega) ?_; intro v' w3 hown' hgrow _; obtain ⟨g', cap', rfl⟩ := ownsRow_succ hown')
  refine bodyPost_ret (v := .slice (some ⟨g', 0, none⟩) (0 + 1) cap') (by simp [results, Tryd.results28, go_sem]) rfl ?_
  rw [HP.out]
  exact ⟨_, rfl, hown', below_append B1 B1.size hrow hgrow⟩
/-- append onto a row of texts of one's own, as a step of a region that draws. -/
theorem step_own {ops : Array Oper} {o : Oper} {a : Act} {w : World} {K : Act → World → Prop} {Q : Exit → Act → World → Prop} {E : Prop}
    (hg : o.guard = none) (s x : Operand) (hop : o.op = Op.call { callee := Callee.builtin Builtin.append, args := #[s, x], argTypes := #[33, 33] })
    (base : Nat) (v : Value) (n : Nat) (xs : List Value) (hs : a.eval s = v) (hown : w.ownsRow base 9 1 v n xs)
    (ad : Addr) (m c : Nat) (news : List Value) (hx : a.eval x = .slice (some ad) m c) (hn : news.length = m) (hc : ∀ j u, news[j]? = some u → w.cell? (ad.add j) = some u) (h1c : ∀ u ∈ news, u.oneCell' = true)
    (b1 : n + m ≤ 100000) (hbase : base ≤ w.heap.size)
    (hK : ∀ v' w', w'.ownsRow base 9 1 v' (n + m) (xs ++ news) → w.grownBy w' v.ownBlock → K (a.put o.dst v') w') :
    if Region.wanted o (yielded ops a.tmps) = true then Oper.wp Tryd.prog o a w K Q else E := by
  obtain ⟨i0, hi, hz0, hz1, hz2⟩ := info_parts infoStr
  have hw : Region.wanted o (yielded ops a.tmps) = true := by simp [Region.wanted, hg]
  rw [if_pos hw]
  obtain ⟨v', w', hrun, r1, r2, _, _⟩ := run_append_own_at (P := Tryd.prog) w base 33 o.type 9 i0 (.string ByteArray.empty) 1 16 Tryd.underlying33 hi hz0 hz1 hz2 rfl (by decide) v n xs hown ad m c news (by omega) hc h1c (by unfold maxLen; omega) (by omega) hbase
  unfold Oper.wp
  simp [execOp, hop, resolve, invoke, builtin, hs, hx, hrun, Result.andThen]
  exact hK v' w' r1 r2
end Go.Proofs.YtaclndbilpaboaaDoor
