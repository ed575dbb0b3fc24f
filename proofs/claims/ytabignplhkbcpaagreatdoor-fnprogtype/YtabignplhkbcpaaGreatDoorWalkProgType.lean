/-
  'laws.FnProgType' returns true at every code: a drawn program has its types, or the line that is told is the first that has not; what has its types runs to its end.
  Conditions: the library's variables and the program's own error hold what their initialisers lay (tied to the program's text); every list of bytes.
-/
import Derived.Test.YtabignplhkbcpaaGreatDoorRunMath
import Derived.Test.YtabignplhkbcpaaGreatDoorGY
import Derived.Test.YtabignplhkbcpaaGreatDoorSpecRun
import Derived.Test.YtabignplhkbcpaaGreatDoorSpecType
import Derived.Test.YtabignplhkbcpaaGreatDoorGX
import Derived.Test.YtabignplhkbcpaaGreatDoorIsErr
import Derived.WalkKit
import Derived.ProofKit
import Derived.OpenShut
import Derived.ShutString
import Derived.ChangeOld
import Derived.Below
import Derived.Lib.SmallJoins
import Derived.SliceStrings
namespace Go.Proofs.YtabignplhkbcpaaGreatDoor.fnProgType
open Go.ChangeShapes Go.WideShapes Go.ChangeAt Go.RowKit Go.Joins
open Go.ChangeMaps (open_string shut_string)


theorem linesU_take {w : World} {B : Nat} {A : Option Addr} {xs : List St} (h : LinesU w B A xs) (k : Nat) : LinesU w B A (xs.take k) := by
  rcases h with h | ⟨g, off, h1, h2, h3⟩
  · left; rw [h]; simp
  · right
    refine ⟨g, off, h1, h2, fun j hj => ?_⟩
    have hj' : j < xs.length := by rw [List.length_take] at hj; omega
    rw [List.getElem_take]
    exact h3 j hj'
theorem stWts_take_le (xs : List St) (k : Nat) : stWts (xs.take k) ≤ stWts xs := by
  unfold stWts
  induction xs generalizing k with
  | nil => simp
  | cons x xs ih =>
    cases k with
    | zero => simp
    | succ k => have := ih k; simp only [List.take_succ_cons, List.map_cons, List.sum_cons]; omega
theorem says_len {ss : List ByteArray} {vs : List Int} {d : De} {ns : List Int} (h : saysD ss vs d = some ns) : ns.length ≤ 1 := by
  cases d with
  | noD => simp only [saysD, Option.some.injEq] at h; subst h; simp
  | letD n t p =>
    simp only [saysD, Option.map_eq_some_iff] at h
    obtain ⟨_, _, rfl⟩ := h
    simp
  | sayD p =>
    simp only [saysD, Option.map_eq_some_iff] at h
    obtain ⟨_, _, rfl⟩ := h
    simp
  | whenD p q =>
    simp only [saysD, Option.bind_eq_some_iff, Option.map_eq_some_iff] at h
    obtain ⟨_, _, _, _, rfl⟩ := h
    split <;> simp
theorem runFrom_len (ds : List De) : ∀ (ss : List ByteArray) (vs out : List Int), (runFrom ds ss vs out).1.length ≤ out.length + ds.length := by
  induction ds with
  | nil => intro ss vs out; rw [runFrom]; simp
  | cons d ds ih =>
    intro ss vs out
    rw [runFrom]
    cases h : saysD ss vs d with
    | none => simp
    | some ns =>
      have h1 := ih (toldS ss d) (toldI ss vs d) (out ++ ns)
      have h2 := says_len h
      rw [List.length_append] at h1
      rw [List.length_cons]
      show (runFrom ds (toldS ss d) (toldI ss vs d) (out ++ ns)).1.length ≤ _
      omega
theorem runP_len (xs : List St) : (runP xs).1.length ≤ 16 := by
  unfold runP
  cases h : doP xs with
  | none => simp
  | some ds =>
    have h1 := doP_some h
    have h2 := (doP_fine h).1
    have h3 := runFrom_len ds [] [] []
    simp only [List.length_nil, Nat.zero_add] at h3
    show (runFrom ds [] [] []).1.length ≤ 16
    omega
theorem none_case {xs : List St} (h : (doP xs).isSome = false) : typeP xs = -2 ∧ runP xs = ([], false) := by
  unfold runP typeP
  cases hd : doP xs with
  | none => exact ⟨rfl, rfl⟩
  | some d => rw [hd] at h; cases h
theorem some_case {xs : List St} (h : (doP xs).isSome = true) : -1 ≤ typeP xs ∧ typeP xs < (xs.length : Int) := by
  cases hd : doP xs with
  | none => rw [hd] at h; cases h
  | some ds => exact typeP_range hd

set_option maxRecDepth 100000 in
set_option maxHeartbeats 4000000 in
theorem walk (A : Option Addr) (len cap : Nat) (w : World) (h1 : InCode w A len cap) (hlaid : LaidW w ∧ ∃ a, LaidN w a) :
    Calls Tryz.prog 4 #[.slice A len cap] w fun r w' => r = .returned (.bool true) ∧ Below w.heap.size w w' := by
  obtain ⟨hL, ad, hN⟩ := hlaid
  by_cases hl1 : 1048576 < len
  · have q1 : decide ((1048576 : Int) < (len : Int)) = true := by simp; omega
    clear h1
    go_enter Tryz.func4, Tryz.ntmps4
    go_wp2_with fail
    go_ret
    exact ⟨rfl, Below.refl _ _⟩
  have q1 : decide ((1048576 : Int) < (len : Int)) = false := by simp; omega
  have HD := Lib.hid (drawProgType_any A len cap w h1)
  have HL := Lib.hid hL
  have HLN := Lib.hid hN
  clear h1 hL hN
  go_enter Tryz.func4, Tryz.ntmps4
  go_wp2_with fail
  refine HD.out.mono ?_
  rintro r w1 ⟨A2, c2, xs, rfl, hc2, hX, hn17, hwt, hb1⟩
  have HPT := Lib.hid (fun (W : World) (hW : Below w1.heap.size w1 W) (k : Nat) => progType_any (xs.take k) A2 c2 w1.heap.size ad W ((linesU_take hX k).keep hW) hW.size (Nat.le_trans (stWts_take_le xs k) (by omega)) (HL.out.below (hb1.trans (hW.mono hb1.size))) (LaidN.below HLN.out (hb1.trans (hW.mono hb1.size))))
  have HPR := Lib.hid (fun (W : World) (hW : Below w1.heap.size w1 W) => progRun_any xs A2 c2 w1.heap.size ad W (hX.keep hW) hW.size (by omega) (HL.out.below (hb1.trans (hW.mono hb1.size))) (LaidN.below HLN.out (hb1.trans (hW.mono hb1.size))))
  have HST := Lib.hid (fun (W : World) (hW : Below w1.heap.size w1 W) => specProgType_any xs A2 c2 w1.heap.size W (hX.keep hW).lines hW.size (by omega))
  have HSR := Lib.hid (fun (W : World) (hW : Below w1.heap.size w1 W) => specProgRun_any xs A2 c2 w1.heap.size W (hX.keep hW).lines hW.size (by omega))
  have HSO := Lib.hid (fun (W : World) (hW : Below w1.heap.size w1 W) => specProgOk_any xs A2 c2 w1.heap.size W (hX.keep hW).lines hW.size (by omega))
  have HP0 := Lib.hid (HPT.out w1 (Below.refl _ _) xs.length)
  rw [List.take_length] at HP0
  unfold GivesI at HPR
  have HNC := Lib.hid (none_case (xs := xs))
  have HSC := Lib.hid (some_case (xs := xs))
  have HTK := Lib.hid (fun (n : Nat) (h : typeP xs = (n : Int)) (hn : 0 < n) => typeP_take h hn)
  have HOK := Lib.hid (typeP_run (xs := xs))
  have hrl := runP_len xs
  generalize hRR : runP xs = RR at *
  obtain ⟨R, ok⟩ := RR
  generalize hTT : typeP xs = T at *
  generalize hdo : (doP xs).isSome = dd at *
  clear hX hRR hTT hdo HD
  simp only at HPR HSR HOK hrl
  go_wp2_with fail
  refine HP0.out.mono ?_
  rintro r w2 ⟨rfl, hb2⟩
  go_wp2_with fail
  refine (HPR.out w2 hb2).mono ?_
  rintro r w3 ⟨v, rfl, hv, hb3'⟩
  have hb3 := hb2.trans (hb3'.mono hb2.size)
  obtain ⟨Ao, co, rfl, _⟩ := own_slice hv
  clear hv HP0
  go_wp2_with fail
  refine (HSR.out w3 hb3).mono ?_
  rintro r w4 ⟨v, bb, rfl, hrow, hb4'⟩
  have hb4 := hb3.trans (hb4'.mono hb3.size)
  obtain ⟨Aw, cw, rfl, _, _⟩ := hrow.slice
  rw [List.length_map]
  have q3 : (ok != ok) = false := by simp
  have q4 : ((R.length : Int) != (R.length : Int)) = false := by simp
  have q5 : (T != T) = false := by simp
  clear hrow HSR
  go_wp2_with fail
  refine (HST.out w4 hb4).mono ?_
  rintro r w5 ⟨rfl, hb5'⟩
  have hb5 := hb4.trans (hb5'.mono hb4.size)
  go_wp2_with fail
  have HS6 := Lib.hid (HSO.out w5 hb5)
  cases dd
  · obtain ⟨hT, hRok⟩ := HNC.out rfl
    simp only [Prod.mk.injEq] at hRok
    obtain ⟨rfl, rfl⟩ := hRok
    subst hT
    refine HS6.out.mono ?_
    rintro r w6 ⟨rfl, hb6'⟩
    have hb6 := hb5.trans (hb6'.mono hb5.size)
    go_wp2_with fail
    go_ret
    exact ⟨rfl, hb1.trans (hb6.mono hb1.size)⟩
  · have hr := HSC.out rfl
    refine HS6.out.mono ?_
    rintro r w6 ⟨rfl, hb6'⟩
    have hb6 := hb5.trans (hb6'.mono hb5.size)
    have g2 : decide (T ≥ (xs.length : Int)) = false := decide_eq_false (by omega)
    have g3 : decide (T < -1) = false := decide_eq_false (by omega)
    clear HNC HSC HS6
    by_cases hpos : 0 < T
    · obtain ⟨n, rfl⟩ : ∃ n : Nat, T = (n : Int) := ⟨T.toNat, by omega⟩
      have HT6 := Lib.hid (HPT.out w6 hb6 n)
      rw [HTK.out n rfl (by omega), List.length_take, Nat.min_eq_left (by omega)] at HT6
      have g1 : decide ((n : Int) > 0) = true := decide_eq_true hpos
      have g4 : decide ((n : Int) ≥ 0) = true := decide_eq_true (by omega)
      have g5 : n ≤ xs.length := by omega
      have g6 : n ≤ c2 := by omega
      have g7 : 0 < n := by omega
      have g8 : n < xs.length := by omega
      have g9 : ¬ xs.length ≤ n := by omega
      clear HTK HOK hr hpos
      go_wp2_with fail
      refine HT6.out.mono ?_
      rintro r w7 ⟨rfl, hb7'⟩
      have hb7 := hb6.trans (hb7'.mono hb6.size)
      go_wp2_with fail
      go_ret
      exact ⟨rfl, hb1.trans (hb7.mono hb1.size)⟩
    · have g1 : decide (T > 0) = false := decide_eq_false hpos
      by_cases h0 : T = 0
      · subst h0
        have g8 : 0 < xs.length := by omega
        have g9 : ¬ xs.length = 0 := by omega
        go_wp2_with fail
        go_ret
        exact ⟨rfl, hb1.trans (hb6.mono hb1.size)⟩
      · have hT : T = -1 := by omega
        have hok := HOK.out hT
        subst hT hok
        go_wp2_with fail
        go_ret
        exact ⟨rfl, hb1.trans (hb6.mono hb1.size)⟩
end Go.Proofs.YtabignplhkbcpaaGreatDoor.fnProgType
