/-
  The contract of the model's ProgOk.
-/
import Derived.Test.YtabignplhkbcpaaGreatDoorGR
import Derived.Test.YtabignplhkbcpaaGreatDoorSpecOk2
import Derived.Test.YtabignplhkbcpaaGreatDoorStList
namespace Go.Proofs.YtabignplhkbcpaaGreatDoor
open Go.RowKit

set_option linter.unusedVariables false in
set_option maxRecDepth 100000 in
set_option maxHeartbeats 8000000 in
theorem specProgOk_any (xs : List St) (A : Option Addr) (c B : Nat) (w : World) (hA : LinesAt w B A xs) (hB : B ≤ w.heap.size) (hwt : stWts xs ≤ 2 ^ 29) :
    Calls Tryz.prog 13 #[.slice A xs.length c] w fun r w' => r = .returned (.bool (doP xs).isSome) ∧ Below w.heap.size w w' := by
  have hl : xs.length ≤ 2 ^ 29 := Nat.le_trans (stWts_length xs) hwt
  have HA := Lib.hid hA
  have HW := Lib.hid (fun (s : St) (h : s ∈ xs) => Nat.le_trans (stWts_mem h) hwt)
  have HF := Lib.hid (doP_all xs)
  generalize (doP xs).isSome = R at *
  clear hA hwt
  go_enter Tryz.func13, Tryz.ntmps13
  go_wp2_with fail
  go_loopw [3] (fun i wr => ∃ j : Nat, j ≤ xs.length ∧ i = .int .i64 j ∧ Hid (∀ k (hk : k < xs.length), k < j → (doS xs[k]).isSome = true) ∧ Below w.heap.size w wr) (fun i _ => xs.length - (intOf i).toNat)
  case atStart => exact ⟨0, Nat.zero_le _, rfl, Lib.hid (fun k _ hk => absurd hk (Nat.not_lt_zero _)), Below.refl _ _⟩
  case round =>
    obtain ⟨j, hj, rfl, HD, hBw⟩ := hrel
    by_cases hlt : j < xs.length
    · obtain ⟨g, off, D1, m1, D2, m2, eA, hg, hC, hk1, hk2⟩ := LinesK.at_ (HA.out.keep (hBw.mono hB)) hlt
      subst eA
      obtain ⟨⟨c0, c1, c2, c3, c4, c5, c6, c7, c8, c9, c10⟩, hm1, hm2⟩ := hC
      have HC := Lib.hid (specStmtOk_any xs[j] D1 D2 m1 m2 B wr hk1 hk2 hm1 hm2 (Nat.le_trans hB hBw.size) (by have := HW.out _ (List.getElem_mem hlt); omega))
      unfold stV at HC
      have hx : (j : Int) < (xs.length : Int) := by omega
      have HNO := Lib.hid (show (doS xs[j]).isSome = false → (xs.all fun s => (doS s).isSome) = false from fun h => by
        rw [Bool.eq_false_iff]
        intro h2
        have := List.all_eq_true.1 h2 _ (List.getElem_mem hlt)
        rw [h] at this
        cases this)
      have HYE := Lib.hid (show (doS xs[j]).isSome = true → ∀ k (hk : k < xs.length), k < j + 1 → (doS xs[k]).isSome = true from fun h k hk hkj => by
        by_cases h2 : k < j
        · exact HD.out k hk h2
        · obtain rfl : k = j := by omega
          exact h)
      generalize (doS xs[j]).isSome = b at *
      generalize xs[j] = x at *
      clear hk1 hk2 hm1 hm2 HD
      go_wp2_with fail
      refine HC.out.mono ?_
      rintro e w1 ⟨rfl, hb1⟩
      have hbw := hBw.trans (hb1.mono hBw.size)
      cases b with
      | true =>
        have HY2 := Lib.hid (HYE.out rfl)
        clear HYE HNO HC
        go_wp2_with fail
        go_roundw
        case rel => exact ⟨j + 1, by omega, by go_num, Lib.hid HY2.out, hbw⟩
        case measure => simp [intOf]; omega
      | false =>
        have HN2 := Lib.hid (HNO.out rfl)
        clear HYE HNO HC
        go_wp2_with fail
        go_ret
        exact ⟨ret_bool (by rw [HF.out, HN2.out]; rfl), hbw⟩
    · have HAL := Lib.hid (show (xs.all fun s => (doS s).isSome) = true from by
        rw [List.all_eq_true]
        intro s hs
        obtain ⟨k, hk, rfl⟩ := List.getElem_of_mem hs
        exact HD.out k hk (by omega))
      clear HD
      by_cases h1 : 1 ≤ xs.length
      · have q1 : decide ((1 : Int) ≤ (xs.length : Int)) = true := by simp; omega
        by_cases h2 : xs.length ≤ 16
        · have q2 : decide ((xs.length : Int) ≤ 16) = true := by simp; omega
          go_wp2_with fail
          go_ret
          exact ⟨ret_bool (by rw [HF.out, HAL.out]; simp [h1, h2]), hBw⟩
        · have q2 : decide ((xs.length : Int) ≤ 16) = false := by simp; omega
          go_wp2_with fail
          go_ret
          exact ⟨ret_bool (by rw [HF.out, HAL.out]; simp [h1, h2]), hBw⟩
      · have q1 : decide ((1 : Int) ≤ (xs.length : Int)) = false := by simp; omega
        go_wp2_with fail
        go_ret
        exact ⟨ret_bool (by rw [HF.out, HAL.out]; simp [h1]), hBw⟩
end Go.Proofs.YtabignplhkbcpaaGreatDoor
