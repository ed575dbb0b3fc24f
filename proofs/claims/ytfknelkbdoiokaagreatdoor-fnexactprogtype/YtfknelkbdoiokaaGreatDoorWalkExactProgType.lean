/-
  'laws.FnExactProgType' returns true at whatever lines: impl.ProgType and the model's ProgType answer the same, and nothing is written into an argument.
  Conditions: the library's variables and the program's own error hold what their initialisers lay (tied to the program's text); every value of []laws.Stmt.
-/
import Derived.Test.YtfknelkbdoiokaaGreatDoorImplType
import Derived.Test.YtfknelkbdoiokaaGreatDoorSpecType
import Derived.Test.YtfknelkbdoiokaaGreatDoorOpenSts
import Derived.Test.YtfknelkbdoiokaaGreatDoorIsErr
import Derived.WalkKit
import Derived.ProofKit
import Derived.OpenShut
import Derived.ShutString
import Derived.ChangeOld
import Derived.Below
import Derived.Lib.SmallJoins
import Derived.SliceStrings
namespace Go.Proofs.YtfknelkbdoiokaaGreatDoor.fnExactProgType
open Go.ChangeShapes Go.WideShapes Go.ChangeAt Go.RowKit Go.Joins
open Go.ChangeMaps (open_string shut_string)


set_option linter.unusedVariables false in
set_option maxRecDepth 100000 in
set_option maxHeartbeats 8000000 in
theorem walk (A : Option Addr) (c : Nat) (xs : List St) (w : World) (hE : InSts w A c xs) (hL : LaidW w ∧ ∃ a, LaidN w a) :
    Calls Tryz.prog 9 #[.slice A xs.length c] w fun r w' => r = .returned (.bool true) ∧ Below w.heap.size w w' := by
  obtain ⟨hfit, hm, hA, hc⟩ := hE
  obtain ⟨hL, ad, hN⟩ := hL
  have HSz := Lib.hid (szStmtS_any xs A c w.heap.size 1048576 w hfit hm hA (Nat.le_refl _) (by omega) (by omega))
  have HTo := Lib.hid (fun (W : World) (hW : Below w.heap.size w W) (hw : stWts xs ≤ 2 ^ 29) => toStmtS_any xs A c w.heap.size W (hA.keep hW) hW.size hw)
  have HL := Lib.hid (fun (W : World) (hW : Below w.heap.size w W) => hL.below hW)
  have HLN := Lib.hid (fun (W : World) (hW : Below w.heap.size w W) => hN.below hW)
  unfold maxLen at hm
  clear hfit hA hL hN
  go_enter Tryz.func9, Tryz.ntmps9
  go_wp2_with fail
  refine HSz.out.mono ?_
  rintro r w1 ⟨z, rfl, hz, hzl, hb1⟩
  by_cases hneg : z < 0
  · have q : decide (z < 0) = true := by simpa using hneg
    go_wp2_with fail
    go_ret
    exact ⟨rfl, hb1⟩
  have q : decide (z < 0) = false := by simpa using hneg
  have hwa : stWts xs ≤ 1048576 := by have := hz (by omega); omega
  have HT := Lib.hid (fun (W : World) (hW : Below w.heap.size w W) => HTo.out W hW (by omega))
  have HS := Lib.hid (fun (X : Option Addr) (k B : Nat) (W : World) (h1 : LinesAt W B X xs) (h2 : B ≤ W.heap.size) => specProgType_any xs X k B W h1 h2 (by omega))
  have HI := Lib.hid (fun (X : Option Addr) (k B : Nat) (W : World) (hW : Below w.heap.size w W) (h1 : LinesU W B X xs) (h2 : B ≤ W.heap.size) => progType_any xs X k B ad W h1 h2 (by omega) (HL.out W hW) (HLN.out W hW))
  have HQ := Lib.hid (fun (X Y : Option Addr) (k l B : Nat) (W : World) (h1 : LinesAt W B X xs) (h2 : LinesAt W B Y xs) (h3 : B ≤ W.heap.size) => eqStmtS_same xs X Y k l B W h1 h2 h3 (by omega))
  generalize typeP xs = ok at *
  have qR : (ok != ok) = false := by simp
  clear HTo HSz hz HL HLN hwa hzl
  go_wp2_with fail
  refine (HT.out w1 hb1).mono ?_
  rintro r w2 ⟨X, k, rfl, hk, hU2, hb2'⟩
  have hb2 := hb1.trans (hb2'.mono hb1.size)
  go_wp2_with fail
  refine (HS.out X k w2.heap.size w2 hU2.lines (Nat.le_refl _)).mono ?_
  rintro r w3 ⟨rfl, hb3'⟩
  have hb3 := hb2.trans (hb3'.mono hb2.size)
  clear hU2 hb2' hb3'
  go_wp2_with fail
  refine (HT.out w3 hb3).mono ?_
  rintro r w4 ⟨Y, l, rfl, hl, hU4, hb4'⟩
  have hb4 := hb3.trans (hb4'.mono hb3.size)
  have HU4 := Lib.hid hU4
  clear hU4 hb4'
  go_wp2_with fail
  refine (HI.out Y l w4.heap.size w4 hb4 HU4.out (Nat.le_refl _)).mono ?_
  rintro r w5 ⟨rfl, hb5'⟩
  have hb5 := hb4.trans (hb5'.mono hb4.size)
  have HU5 := Lib.hid (HU4.out.lines.keep hb5')
  have hz5 := hb5'.size
  clear hb5' HU4
  go_wp2_with fail
  refine (HT.out w5 hb5).mono ?_
  rintro r w6 ⟨Z, m, rfl, hm6, hU6, hb6'⟩
  have hb6 := hb5.trans (hb6'.mono hb5.size)
  have HC := Lib.hid (HQ.out Y Z l m w6.heap.size w6 (by
    have h := (HU5.out.keep (hb6'.mono hz5))
    rcases h with h | ⟨g, off, h1, h2, h3⟩
    · exact .inl h
    · refine .inr ⟨g, off, h1, by have := hb6'.size; omega, fun j hj => ?_⟩
      obtain ⟨D1, m1, D2, m2, q1, q2, q3⟩ := h3 j hj
      exact ⟨D1, m1, D2, m2, q1, q2.wide (by have := hb6'.size; omega), q3.wide (by have := hb6'.size; omega)⟩) hU6.lines (Nat.le_refl _))
  clear hU6 hb6' HU5
  go_wp2_with fail
  refine HC.out.mono ?_
  rintro r w7 ⟨rfl, hb7⟩
  go_wp2_with fail
  go_ret
  exact ⟨rfl, hb6.trans (hb7.mono hb6.size)⟩
end Go.Proofs.YtfknelkbdoiokaaGreatDoor.fnExactProgType
