/-
  The contract of the program's ExprWords, for all that can be read.
-/
import Derived.Test.YtaclndbilpaboaaDoorMethWrite
import Derived.Test.YtaclndbilpaboaaDoorExprOk
namespace Go.Proofs.YtaclndbilpaboaaDoor
open Go.RowKit

/-- Its words; none of what is not ok. -/
def wordsE (e : Ex) : List ByteArray := match okP e with
  | some p => p.words
  | none => []
/-- These words are handed back, in memory of their own. -/
def Wordy (xs : List ByteArray) (w : World) (r : Ending) (w' : World) : Prop :=
  ∃ v, r = .returned v ∧ w'.ownsRow w.heap.size 9 1 v xs.length (xs.map strV) ∧ Below w.heap.size w w'
theorem ownsRow_nil (w : World) (B : Nat) (t : TypeId) : w.ownsRow B t 1 (.slice none 0 0) 0 [] := ⟨rfl, .inl ⟨rfl, rfl⟩⟩
theorem ownsRow_lower {w : World} {B C : Nat} {t : TypeId} {v : Value} {n : Nat} {xs : List Value} (h : w.ownsRow B t 1 v n xs) (hC : C ≤ B) : w.ownsRow C t 1 v n xs := by
  refine ⟨h.1, ?_⟩
  rcases h.2 with h0 | ⟨g, cap, cur, h1, h2, h3⟩
  · exact .inl h0
  · exact .inr ⟨g, cap, cur, h1, Nat.le_trans hC h2, h3⟩
set_option maxRecDepth 100000 in
set_option maxHeartbeats 2000000 in
theorem exprWords_any (e : Ex) (A : Option Addr) (c B : Nat) (w : World) (hA : KidsAt w B A e.kids) (hc : e.kids.length ≤ c) (hB : B ≤ w.heap.size) (hw : e.wt ≤ 2 ^ 40) (hlaid : LaidW w) :
    Calls Tryd.prog 13 #[.agg #[.int .i64 e.kind, .int .i64 e.n, .string e.s, .slice A e.kids.length c]] w (Wordy (wordsE e) w) := by
  have hkl : e.kids.length ≤ 2 ^ 40 := by
    obtain ⟨k, n, s, ks⟩ := e
    have := Ex.wts_length ks
    simp only [Ex.wt, Ex.kids] at hw ⊢
    omega
  obtain ⟨W0, hW0⟩ : ∃ W0, W0 = w.alloc (.cells #[.int .i64 e.kind, .int .i64 e.n, .string e.s, .slice A e.kids.length c] 29) := ⟨_, rfl⟩
  have hb0 : Below w.heap.size w W0 := by rw [hW0]; exact (Below.refl _ w).alloc (Nat.le_refl _) _
  have HC := Lib.hid (partOf_any e A c B W0 (hA.keep (hb0.mono hB)) hc (Nat.le_trans hB hb0.size) hw)
  unfold PartOf at HC
  clear hA hw
  cases hok : okE e
  · have HF := Lib.hid (show wordsE e = [] by unfold wordsE; rw [show okP e = none from by cases h : okP e with | none => rfl | some p => rw [← okP_isSome, h] at hok; cases hok])
    rw [hok] at HC
    clear hok
    go_enter Tryd.func13, Tryd.ntmps13
    go_wp2_with fail
    rw [← hW0]
    refine HC.out.mono ?_
    rintro r w1 ⟨v, rfl, _, hb1⟩
    go_wp2_with fail
    refine bodyPost_ret (v := .slice none 0 0) (by simp [results, Tryd.results13, go_sem]) rfl ?_
    rw [HF.out]
    exact ⟨_, rfl, ownsRow_nil _ _ _, hb0.trans (hb1.mono hb0.size)⟩
  · obtain ⟨p, hp⟩ : ∃ p, okP e = some p := by
      cases h : okP e with
      | none => rw [← okP_isSome, h] at hok; cases hok
      | some p => exact ⟨p, rfl⟩
    have HF := Lib.hid (show wordsE e = p.words by unfold wordsE; rw [hp])
    have HP := Lib.hid hp
    obtain ⟨hex, hpo⟩ := okP_some hp
    have hfine := ok_fine hpo
    have hnod : p.nodes ≤ 12 := by
      unfold okP at hp
      split at hp
      · rename_i h; rw [hex, Pt.nodes_ex] at h; exact h
      · cases hp
    rw [hok] at HC
    clear hok hp hex hpo
    go_enter Tryd.func13, Tryd.ntmps13
    go_wp2_with fail
    rw [← hW0]
    refine HC.out.mono ?_
    rintro r w1 ⟨v, rfl, hv, hb1⟩
    obtain rfl := hv p HP.out
    obtain ⟨m1, n1, k1⟩ := meth_write p
    have hb01 := hb0.trans (hb1.mono hb0.size)
    have hL1 : LaidW w1 := hlaid.below hb01
    have HWR := Lib.hid (show Calls Tryd.prog (fWrite p) #[ptU p, sendV w1.heap.size] (w1.alloc (.cells #[.slice none 0 0] 33)) (Puts w1.heap.size w1.heap.size [] p.words (w1.alloc (.cells #[.slice none 0 0] 33))) from
      write_any hL1 p hfine _ [] ((Below.refl _ w1).alloc (Nat.le_refl _) _) ⟨Nat.le_refl _, _, Boxed.new w1 _ _, ownsRow_nil _ _ _⟩ (by simp; omega))
    rw [partV_at p]
    unfold sendV at HWR
    generalize ptT p = t1 at *
    generalize ptU p = u1 at *
    generalize fWrite p = f1 at *
    generalize p.words = ws at *
    clear HC hv HP hW0 hL1 hlaid
    go_wp2_with fail
    refine HWR.out.mono ?_
    rintro r w3 ⟨⟨v3, rfl⟩, ⟨_, v, hv, hrow⟩, hb3, _⟩
    have x0 := hv.cell
    have hz := hb01.size
    obtain ⟨A3, c3, hvs, hc3⟩ := own_slice hrow
    subst hvs
    go_wp2_with fail
    refine bodyPost_ret (v := .slice A3 ([] ++ ws).length c3) (by simp [results, Tryd.results13, go_sem]) rfl ?_
    rw [HF.out]
    exact ⟨_, rfl, ownsRow_lower hrow hz, hb01.trans (((Below.refl _ w1).alloc (Nat.le_refl _) _ |>.mono hz).trans (hb3.mono hz))⟩
end Go.Proofs.YtaclndbilpaboaaDoor
