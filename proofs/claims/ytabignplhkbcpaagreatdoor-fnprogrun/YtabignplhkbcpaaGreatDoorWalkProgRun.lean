/-
  'laws.FnProgRun' returns true at every two codes: a drawn program says what the model says, and its first lines say the first of it.
  Conditions: the library's variables and the program's own error hold what their initialisers lay (tied to the program's text); every two lists of bytes.
-/
import Derived.Test.YtabignplhkbcpaaGreatDoorRunMath
import Derived.Test.YtabignplhkbcpaaGreatDoorGY
import Derived.Test.YtabignplhkbcpaaGreatDoorSpecRun
import Derived.Test.YtabignplhkbcpaaGreatDoorGX
import Derived.Test.YtabignplhkbcpaaGreatDoorIsErr
import Derived.WalkKit
import Derived.ProofKit
import Derived.OpenShut
import Derived.ShutString
import Derived.ChangeOld
import Derived.Below
import Derived.Lib.SmallJoins
import Derived.SliceStrings
namespace Go.Proofs.YtabignplhkbcpaaGreatDoor.fnProgRun
open Go.ChangeShapes Go.WideShapes Go.ChangeAt Go.RowKit Go.Joins
open Go.ChangeMaps (open_string shut_string)


theorem linesU_take {w : World} {B : Nat} {A : Option Addr} {xs : List St} (h : LinesU w B A xs) (k : Nat) : LinesU w B A (xs.take k) := by
  rcases h with h | ⟨g, off, h1, h2, h3⟩
  · left; rw [h]; simp
  · right
    refine ⟨g, off, h1, h2, fun j hj => ?_⟩
    have hj' : j < xs.length := by rw [List.length_take] at hj; omega
    rw [List.getElem_take]
    exact h3 j hj'
theorem stWts_take_le (xs : List St) (k : Nat) : stWts (xs.take k) ≤ stWts xs := by
  unfold stWts
  induction xs generalizing k with
  | nil => simp
  | cons x xs ih =>
    cases k with
    | zero => simp
    | succ k => have := ih k; simp only [List.take_succ_cons, List.map_cons, List.sum_cons]; omega
theorem runP_none {xs : List St} (h : (doP xs).isSome = false) : (runP xs).1 = [] := by
  unfold runP
  cases hd : doP xs with
  | none => rfl
  | some d => rw [hd] at h; cases h
theorem says_len {ss : List ByteArray} {vs : List Int} {d : De} {ns : List Int} (h : saysD ss vs d = some ns) : ns.length ≤ 1 := by
  cases d with
  | noD => simp only [saysD, Option.some.injEq] at h; subst h; simp
  | letD n t p =>
    simp only [saysD, Option.map_eq_some_iff] at h
    obtain ⟨_, _, rfl⟩ := h
    simp
  | sayD p =>
    simp only [saysD, Option.map_eq_some_iff] at h
    obtain ⟨_, _, rfl⟩ := h
    simp
  | whenD p q =>
    simp only [saysD, Option.bind_eq_some_iff, Option.map_eq_some_iff] at h
    obtain ⟨_, _, _, _, rfl⟩ := h
    split <;> simp
theorem runFrom_len (ds : List De) : ∀ (ss : List ByteArray) (vs out : List Int), (runFrom ds ss vs out).1.length ≤ out.length + ds.length := by
  induction ds with
  | nil => intro ss vs out; rw [runFrom]; simp
  | cons d ds ih =>
    intro ss vs out
    rw [runFrom]
    cases h : saysD ss vs d with
    | none => simp
    | some ns =>
      have h1 := ih (toldS ss d) (toldI ss vs d) (out ++ ns)
      have h2 := says_len h
      rw [List.length_append] at h1
      rw [List.length_cons]
      show (runFrom ds (toldS ss d) (toldI ss vs d) (out ++ ns)).1.length ≤ _
      omega
theorem runP_len (xs : List St) : (runP xs).1.length ≤ 16 := by
  unfold runP
  cases h : doP xs with
  | none => simp
  | some ds =>
    have h1 := doP_some h
    have h2 := (doP_fine h).1
    have h3 := runFrom_len ds [] [] []
    simp only [List.length_nil, Nat.zero_add] at h3
    show (runFrom ds [] [] []).1.length ≤ 16
    omega
theorem take_case {xs : List St} (h : (doP xs).isSome = true) (n : Nat) : ∃ k, k = 1 + n % xs.length ∧ 1 ≤ k ∧ k ≤ xs.length ∧ 0 < xs.length ∧ (∃ more, (runP xs).1 = (runP (xs.take k)).1 ++ more) ∧ ((runP xs).2 = true → (runP (xs.take k)).2 = true) ∧ ((runP (xs.take k)).2 = false → (runP xs).1 = (runP (xs.take k)).1) := by
  cases hd : doP xs with
  | none => rw [hd] at h; cases h
  | some ds =>
    obtain ⟨_, h1, h2⟩ := doP_some hd
    have hm := Nat.mod_lt n (show 0 < xs.length by omega)
    obtain ⟨a, b, c⟩ := runP_take hd (k := 1 + n % xs.length) (by omega) (by omega)
    exact ⟨_, rfl, by omega, by omega, by omega, a, b, fun h => by rw [c h]⟩

set_option maxRecDepth 100000 in
set_option maxHeartbeats 4000000 in
theorem walk (A : Option Addr) (len cap : Nat) (B0 : Option Addr) (lenB capB : Nat) (w : World) (h1 : InCode w A len cap) (_ : InCode w B0 lenB capB) (hlaid : LaidW w ∧ ∃ a, LaidN w a) :
    Calls Tryz.prog 3 #[.slice A len cap, .slice B0 lenB capB] w fun r w' => r = .returned (.bool true) ∧ Below w.heap.size w w' := by
  obtain ⟨hL, ad, hN⟩ := hlaid
  by_cases hl1 : 1048576 < len
  · have q1 : decide ((1048576 : Int) < (len : Int)) = true := by simp; omega
    clear h1
    go_enter Tryz.func3, Tryz.ntmps3
    go_wp2_with fail
    go_ret
    exact ⟨rfl, Below.refl _ _⟩
  have q1 : decide ((1048576 : Int) < (len : Int)) = false := by simp; omega
  by_cases hl2 : 1048576 < lenB
  · have q2 : decide ((1048576 : Int) < (lenB : Int)) = true := by simp; omega
    clear h1
    go_enter Tryz.func3, Tryz.ntmps3
    go_wp2_with fail
    go_ret
    exact ⟨rfl, Below.refl _ _⟩
  have q2 : decide ((1048576 : Int) < (lenB : Int)) = false := by simp; omega
  have HD := Lib.hid (drawProgRun_any A len cap w h1)
  have HL := Lib.hid hL
  have HLN := Lib.hid hN
  clear h1 hL hN
  go_enter Tryz.func3, Tryz.ntmps3
  go_wp2_with fail
  refine HD.out.mono ?_
  rintro r w1 ⟨A2, c2, xs, rfl, hc2, hX, hn17, hwt, hb1⟩
  have HX := Lib.hid hX
  have HPR := Lib.hid (fun (W : World) (hW : Below w1.heap.size w1 W) (k : Nat) => progRun_any (xs.take k) A2 c2 w1.heap.size ad W ((linesU_take hX k).keep hW) hW.size (Nat.le_trans (stWts_take_le xs k) (by omega)) (HL.out.below (hb1.trans (hW.mono hb1.size))) (LaidN.below HLN.out (hb1.trans (hW.mono hb1.size))))
  have HSR := Lib.hid (fun (W : World) (hW : Below w1.heap.size w1 W) => specProgRun_any xs A2 c2 w1.heap.size W (hX.keep hW).lines hW.size (by omega))
  have HSO := Lib.hid (fun (W : World) (hW : Below w1.heap.size w1 W) => specProgOk_any xs A2 c2 w1.heap.size W (hX.keep hW).lines hW.size (by omega))
  have HP0 := Lib.hid (HPR.out w1 (Below.refl _ _) xs.length)
  rw [List.take_length] at HP0
  unfold GivesI at HPR HP0
  have HTC := Lib.hid (take_case (xs := xs))
  have HNO := Lib.hid (runP_none (xs := xs))
  have hrl := runP_len xs
  have HRL := Lib.hid (fun k => runP_len (xs.take k))
  generalize hR : (runP xs).1 = R at *
  generalize hok : (runP xs).2 = ok at *
  generalize hdo : (doP xs).isSome = dd at *
  clear hX hR hok hdo HD
  go_wp2_with fail
  refine HP0.out.mono ?_
  rintro r w2 ⟨v, rfl, hv, hb2⟩
  obtain ⟨Ao, co, rfl, _⟩ := own_slice hv
  have HO2 := Lib.hid (SlIs.own hv)
  clear hv HP0
  go_wp2_with fail
  refine (HSR.out w2 hb2).mono ?_
  rintro r w3 ⟨v, bb, rfl, hrow, hb3'⟩
  have hb3 := hb2.trans (hb3'.mono hb2.size)
  obtain ⟨Aw, cw, rfl, _, hW3⟩ := hrow.slice
  rw [List.length_map]
  have HW3 := Lib.hid hW3
  have HO3 := Lib.hid (HO2.out.below hb3')
  have q3 : (ok != ok) = false := by simp
  have q4 : ((R.length : Int) != (R.length : Int)) = false := by simp
  clear hrow hW3 HO2 HSR
  go_wp2_with fail
  go_loopw [10] (fun i wr => ∃ k : Nat, k ≤ R.length ∧ i = .int .i64 k ∧ Below w3.heap.size w3 wr) (fun i _ => R.length - (intOf i).toNat)
  case atStart => exact ⟨0, Nat.zero_le _, rfl, Below.refl _ _⟩
  case round =>
    obtain ⟨k, hk, rfl, hbw⟩ := hrel
    by_cases hlt : k < R.length
    · obtain ⟨g, off, rfl, hg, c0⟩ := (HO3.out.below hbw).at_ (k := k) (by simpa using hlt)
      obtain ⟨g', off', rfl, hg', c1⟩ := (HW3.out.below hbw).at_ (k := k) (by simpa using hlt)
      simp only [List.getElem_map, intV] at c0 c1
      generalize R[k] = z at *
      have hx : (k : Int) < (R.length : Int) := by omega
      have q5 : (z != z) = false := by simp
      go_wp2_with fail
      go_quiet (fail)
      go_wp2_with fail
      go_roundw
      case rel => exact ⟨k + 1, by omega, by go_num, hbw.trans ((below_draws _).mono hbw.size)⟩
      case measure => simp [intOf]; omega
    · obtain rfl : R.length = k := by omega
      have hbz := hb3.trans (hbw.mono hb3.size)
      have HS4 := Lib.hid (HSO.out wr hbz)
      cases dd
      · have HE := Lib.hid (HNO.out rfl)
        go_wp2_with fail
        refine HS4.out.mono ?_
        rintro r w4 ⟨rfl, hb4'⟩
        have hb4 := hbz.trans (hb4'.mono hbz.size)
        have hR0 := HE.out
        subst hR0
        go_wp2_with fail
        go_ret
        exact ⟨rfl, hb1.trans (hb4.mono hb1.size)⟩
      · obtain ⟨kk, hkk, hk1, hk2, hpos, ⟨more, hmore⟩, hokf, hsame⟩ := HTC.out rfl lenB
        have HP5 := Lib.hid (fun (W : World) (hW : Below w1.heap.size w1 W) => HPR.out W hW kk)
        have hfl := HRL.out kk
        rw [List.length_take, Nat.min_eq_left hk2] at HP5
        have HMO := Lib.hid hmore
        have HSM := Lib.hid hsame
        have HOF := Lib.hid hokf
        obtain ⟨m, hm⟩ : ∃ m, m = lenB % xs.length := ⟨_, rfl⟩
        have e1 : (lenB : Int) % (xs.length : Int) = (m : Int) := by rw [hm]; omega
        have hkm : kk = m + 1 := by omega
        have hmod := Nat.mod_lt lenB hpos
        have e2 : IntKind.i64.wrap (1 + (m : Int)) = (m : Int) + 1 := by rw [IntWalk.i64_in _ (by omega)]; omega
        have e3 : (xs.length : Int) ≠ 0 := by omega
        subst hkm
        clear hmore hsame hokf HTC hm hkk
        generalize hF : (runP (xs.take (m + 1))).1 = Fs at *
        generalize hfine : (runP (xs.take (m + 1))).2 = fine at *
        clear hF hfine HRL
        have HA5 := Lib.hid (show R.length = Fs.length + more.length by rw [HMO.out, List.length_append])
        have hfle := HA5.out
        have u1 : decide ((Fs.length : Int) > (R.length : Int)) = false := decide_eq_false (by omega)
        go_wp2_with fail
        refine HS4.out.mono ?_
        rintro r w4 ⟨rfl, hb4'⟩
        have hb4 := hbz.trans (hb4'.mono hbz.size)
        have HO4 := Lib.hid (HO3.out.below (hbw.trans (hb4'.mono hbw.size)))
        go_wp2_with fail
        refine (HP5.out w4 hb4).mono ?_
        rintro r w5 ⟨v, rfl, hv, hb5'⟩
        obtain ⟨Af, cf, rfl, _⟩ := own_slice hv
        have HF5 := Lib.hid (SlIs.own hv)
        have HO5 := Lib.hid (HO4.out.below hb5')
        have hb5 := hb4.trans (hb5'.mono hb4.size)
        clear hv HP5
        cases fine
        · cases ok
          · go_wp2_with fail
            go_loopw [14] (fun i wr2 => ∃ k : Nat, k ≤ Fs.length ∧ i = .int .i64 k ∧ Below w5.heap.size w5 wr2) (fun i _ => Fs.length - (intOf i).toNat)
            case atStart => exact ⟨0, Nat.zero_le _, rfl, Below.refl _ _⟩
            case round =>
              obtain ⟨k2, hk2', rfl, hbw2⟩ := hrel
              by_cases hlt2 : k2 < Fs.length
              · obtain ⟨g, off, rfl, hg, c0⟩ := (HF5.out.below hbw2).at_ (k := k2) (by simpa using hlt2)
                obtain ⟨g', off', rfl, hg', c1⟩ := (HO5.out.below hbw2).at_ (k := k2) (by simp; omega)
                simp only [List.getElem_map, intV] at c0 c1
                have hzz : R[k2]'(by omega) = Fs[k2] := by
                  have h := HMO.out
                  simp only [h, List.getElem_append_left hlt2]
                rw [hzz] at c1
                generalize Fs[k2] = z at *
                have hx : (k2 : Int) < (Fs.length : Int) := by omega
                have hx2 : (k2 : Int) < (R.length : Int) := by omega
                have q5 : (z != z) = false := by simp
                clear hzz
                go_wp2_with fail
                go_quiet (fail)
                go_wp2_with fail
                go_roundw
                case rel => exact ⟨k2 + 1, by omega, by go_num, hbw2.trans ((below_draws _).mono hbw2.size)⟩
                case measure => simp [intOf]; omega
              · obtain rfl : Fs.length = k2 := by omega
                have hml : more.length = 0 := by have h := congrArg List.length (HSM.out trivial); have h2 := HA5.out; omega
                have e9 : ((Fs.length : Int) == (Fs.length : Int) + (more.length : Int)) = true := by rw [beq_iff_eq]; omega
                go_wp2_with fail
                go_ret
                exact ⟨rfl, hb1.trans ((hb5.trans (hbw2.mono hb5.size)).mono hb1.size)⟩
          · exact absurd (HOF.out rfl) (by decide)
        · cases ok
          · go_wp2_with fail
            go_loopw [14] (fun i wr2 => ∃ k : Nat, k ≤ Fs.length ∧ i = .int .i64 k ∧ Below w5.heap.size w5 wr2) (fun i _ => Fs.length - (intOf i).toNat)
            case atStart => exact ⟨0, Nat.zero_le _, rfl, Below.refl _ _⟩
            case round =>
              obtain ⟨k2, hk2', rfl, hbw2⟩ := hrel
              by_cases hlt2 : k2 < Fs.length
              · obtain ⟨g, off, rfl, hg, c0⟩ := (HF5.out.below hbw2).at_ (k := k2) (by simpa using hlt2)
                obtain ⟨g', off', rfl, hg', c1⟩ := (HO5.out.below hbw2).at_ (k := k2) (by simp; omega)
                simp only [List.getElem_map, intV] at c0 c1
                have hzz : R[k2]'(by omega) = Fs[k2] := by
                  have h := HMO.out
                  simp only [h, List.getElem_append_left hlt2]
                rw [hzz] at c1
                generalize Fs[k2] = z at *
                have hx : (k2 : Int) < (Fs.length : Int) := by omega
                have hx2 : (k2 : Int) < (R.length : Int) := by omega
                have q5 : (z != z) = false := by simp
                clear hzz
                go_wp2_with fail
                go_quiet (fail)
                go_wp2_with fail
                go_roundw
                case rel => exact ⟨k2 + 1, by omega, by go_num, hbw2.trans ((below_draws _).mono hbw2.size)⟩
                case measure => simp [intOf]; omega
              · obtain rfl : Fs.length = k2 := by omega
                go_wp2_with fail
                go_ret
                exact ⟨rfl, hb1.trans ((hb5.trans (hbw2.mono hb5.size)).mono hb1.size)⟩
          · go_wp2_with fail
            go_loopw [14] (fun i wr2 => ∃ k : Nat, k ≤ Fs.length ∧ i = .int .i64 k ∧ Below w5.heap.size w5 wr2) (fun i _ => Fs.length - (intOf i).toNat)
            case atStart => exact ⟨0, Nat.zero_le _, rfl, Below.refl _ _⟩
            case round =>
              obtain ⟨k2, hk2', rfl, hbw2⟩ := hrel
              by_cases hlt2 : k2 < Fs.length
              · obtain ⟨g, off, rfl, hg, c0⟩ := (HF5.out.below hbw2).at_ (k := k2) (by simpa using hlt2)
                obtain ⟨g', off', rfl, hg', c1⟩ := (HO5.out.below hbw2).at_ (k := k2) (by simp; omega)
                simp only [List.getElem_map, intV] at c0 c1
                have hzz : R[k2]'(by omega) = Fs[k2] := by
                  have h := HMO.out
                  simp only [h, List.getElem_append_left hlt2]
                rw [hzz] at c1
                generalize Fs[k2] = z at *
                have hx : (k2 : Int) < (Fs.length : Int) := by omega
                have hx2 : (k2 : Int) < (R.length : Int) := by omega
                have q5 : (z != z) = false := by simp
                clear hzz
                go_wp2_with fail
                go_quiet (fail)
                go_wp2_with fail
                go_roundw
                case rel => exact ⟨k2 + 1, by omega, by go_num, hbw2.trans ((below_draws _).mono hbw2.size)⟩
                case measure => simp [intOf]; omega
              · obtain rfl : Fs.length = k2 := by omega
                go_wp2_with fail
                go_ret
                exact ⟨rfl, hb1.trans ((hb5.trans (hbw2.mono hb5.size)).mono hb1.size)⟩
end Go.Proofs.YtabignplhkbcpaaGreatDoor.fnProgRun
