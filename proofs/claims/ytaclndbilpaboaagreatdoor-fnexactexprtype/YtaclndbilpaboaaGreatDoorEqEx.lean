/-
  The contract of laws.eqExpr: two that are the same are told to be.
-/
import Derived.Test.YtaclndbilpaboaaGreatDoorExs
import Derived.Test.YtaclndbilpaboaaGreatDoorSpecEx
namespace Go.Proofs.YtaclndbilpaboaaGreatDoor
open Go.RowKit

set_option maxRecDepth 100000 in
set_option maxHeartbeats 4000000 in
theorem eqExpr_same (e : Ex) : ∀ (A A' : Option Addr) (c c' B : Nat) (w : World), KidsAt w B A e.kids → KidsAt w B A' e.kids → e.kids.length ≤ c → e.kids.length ≤ c' → B ≤ w.heap.size → e.wt ≤ 2 ^ 40 →
    Calls Tryz.prog 13 #[.agg #[.int .i64 e.kind, .int .i64 e.n, .string e.s, .slice A e.kids.length c], .agg #[.int .i64 e.kind, .int .i64 e.n, .string e.s, .slice A' e.kids.length c']] w fun r w' => r = .returned (.bool true) ∧ Below w.heap.size w w' := by
  induction e using Ex.ind with
  | h k n s ks ih =>
    intro A A' c c' B w hA hA' hc hc' hB hw
    simp only [Ex.kind, Ex.n, Ex.s, Ex.kids, Ex.wt] at hA hA' hc hc' hw ⊢
    have hlw := Ex.wts_length ks
    have hl : ks.length ≤ 2 ^ 40 := by omega
    have HA := Lib.hid hA
    have HA' := Lib.hid hA'
    have HI := Lib.hid ih
    have HWT := Lib.hid (show Ex.wts ks ≤ 2 ^ 40 by omega)
    clear hA hA' ih hw hlw
    have HS := Lib.hid (show ∀ W : World, Below w.heap.size w W → Calls Tryz.prog 29 #[.slice A ks.length c, .slice A' ks.length c'] W fun r W' => r = .returned (.bool true) ∧ Below W.heap.size W W' by
      intro W hW
      have q0 : ((ks.length : Int) != (ks.length : Int)) = false := by simp
      go_enter Tryz.func29, Tryz.ntmps29
      go_wp2_with fail
      go_loopw [5] (fun i wr => ∃ j : Nat, j ≤ ks.length ∧ i = .int .i64 j ∧ Below W.heap.size W wr) (fun i _ => ks.length - (intOf i).toNat)
      case atStart => exact ⟨0, Nat.zero_le _, rfl, Below.refl _ _⟩
      case round =>
        obtain ⟨j, hj, rfl, hBw⟩ := hrel
        have hBB := hW.trans (hBw.mono hW.size)
        by_cases hlt : j < ks.length
        · obtain ⟨g, off, D, m1, eA, hg, kid⟩ := (HA.out.keep (hBB.mono hB)).at_ hlt
          obtain ⟨g', off', D', m1', eA', hg', kid'⟩ := (HA'.out.keep (hBB.mono hB)).at_ hlt
          subst eA eA'
          have hkb : ks[j].wt + 1 ≤ Ex.wts ks := Ex.wt_mem (List.getElem_mem _)
          have HC := Lib.hid (fun (V : World) (hV : Below wr.heap.size wr V) => HI.out ks[j] (List.getElem_mem hlt) D D' m1 m1' B V (kid.hk.keep (hV.mono (Nat.le_trans hB hBB.size))) (kid'.hk.keep (hV.mono (Nat.le_trans hB hBB.size))) kid.hc kid'.hc (Nat.le_trans (Nat.le_trans hB hBB.size) hV.size) (by have := HWT.out; omega))
          generalize ks[j] = x at *
          obtain ⟨k', n', s', ks'⟩ := x
          obtain ⟨c0, c1, c2, c3, hcc, hkk⟩ := kid
          obtain ⟨b0, b1, b2, b3, hbb, hkk'⟩ := kid'
          simp only [Ex.kind, Ex.n, Ex.s, Ex.kids] at c0 c1 c2 c3 hcc b0 b1 b2 b3 hbb HC
          have hgl : g < wr.heap.size := Nat.lt_of_lt_of_le hg (Nat.le_trans hB hBB.size)
          have hgl' : g' < wr.heap.size := Nat.lt_of_lt_of_le hg' (Nat.le_trans hB hBB.size)
          have hx : (j : Int) < (ks.length : Int) := by omega
          clear hkk hkk' hkb
          go_wp2_with fail
          go_region_held3 (fun w' => w'.cell? ⟨g, off + j * 4, none⟩ = some (.int .i64 k') ∧ w'.cell? ⟨g, off + j * 4 + 1, none⟩ = some (.int .i64 n') ∧ w'.cell? ⟨g, off + j * 4 + 2, none⟩ = some (.string s') ∧ w'.cell? ⟨g, off + j * 4 + 3, none⟩ = some (.slice D ks'.length m1) ∧ w'.cell? ⟨g', off' + j * 4, none⟩ = some (.int .i64 k') ∧ w'.cell? ⟨g', off' + j * 4 + 1, none⟩ = some (.int .i64 n') ∧ w'.cell? ⟨g', off' + j * 4 + 2, none⟩ = some (.string s') ∧ w'.cell? ⟨g', off' + j * 4 + 3, none⟩ = some (.slice D' ks'.length m1') ∧ Below wr.heap.size wr w')
            (first | exact ⟨c0, c1, c2, c3, b0, b1, b2, b3, (Below.refl _ wr).drew⟩ | exact ⟨(hb2.cell (p := ⟨g, off + j * 4, none⟩) hgl).trans c0, (hb2.cell (p := ⟨g, off + j * 4 + 1, none⟩) hgl).trans c1, (hb2.cell (p := ⟨g, off + j * 4 + 2, none⟩) hgl).trans c2, (hb2.cell (p := ⟨g, off + j * 4 + 3, none⟩) hgl).trans c3, (hb2.cell (p := ⟨g', off' + j * 4, none⟩) hgl').trans b0, (hb2.cell (p := ⟨g', off' + j * 4 + 1, none⟩) hgl').trans b1, (hb2.cell (p := ⟨g', off' + j * 4 + 2, none⟩) hgl').trans b2, (hb2.cell (p := ⟨g', off' + j * 4 + 3, none⟩) hgl').trans b3, hb2⟩)
            (first | (go_at_call 13; refine (HC.out _ (Below.refl _ wr).drew).mono ?_; rintro e w2 ⟨rfl, hb2'⟩; have hb2 : Below wr.heap.size wr w2 := (Below.refl _ wr).drew.trans hb2'))
          rename_i hh
          go_wp2_with fail
          go_roundw
          case rel => exact ⟨j + 1, by omega, by go_num, hBw.trans (hb2.mono hBw.size)⟩
          case measure => simp [intOf]; omega
        · go_wp2_with fail
          go_ret
          exact ⟨rfl, hBw⟩)
    have q1 : (k != k) = false := by simp
    have q2 : (n != n) = false := by simp
    have q3 : (!s.toList == s.toList) = false := by simp
    have hb0 : Below w.heap.size w ((w.alloc (.cells #[.int .i64 k, .int .i64 n, .string s, .slice A ks.length c] 31)).alloc (.cells #[.int .i64 k, .int .i64 n, .string s, .slice A' ks.length c'] 31)) := ((Below.refl _ w).alloc (Nat.le_refl _) _).alloc (by simp) _
    have HC := Lib.hid (HS.out _ hb0)
    go_enter Tryz.func13, Tryz.ntmps13
    go_wp2_with fail
    refine HC.out.mono ?_
    rintro r w1 ⟨rfl, hb1⟩
    go_wp2_with fail
    go_ret
    exact ⟨rfl, hb0.trans (hb1.mono hb0.size)⟩
end Go.Proofs.YtaclndbilpaboaaGreatDoor
