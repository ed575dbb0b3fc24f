/-
  'laws.FnTokText' returns true at every code: drawn words, written with a space between, are cut into just these words.
  Conditions: the library's variables hold what their initialisers lay (tied to the program's text); every slice of bytes.
-/
import Derived.Test.YtfepifcpcfoaaaaDoorTokDraw2
import Derived.Test.YtfepifcpcfoaaaaDoorTokJoin
import Derived.Test.YtfepifcpcfoaaaaDoorImplLine
import Derived.Test.YtfepifcpcfoaaaaDoorLaid
import Derived.Test.YtfepifcpcfoaaaaDoorCards
import Derived.Test.YtfepifcpcfoaaaaDoorTie
import Derived.Test.YtfepifcpcfoaaaaDoorRows
import Derived.WalkKit
import Derived.ProofKit
import Derived.OpenShut
import Derived.ShutString
import Derived.ChangeOld
import Derived.Below
import Derived.Lib.SmallJoins
import Derived.SliceStrings
namespace Go.Proofs.YtfepifcpcfoaaaaDoor.fnTokText
open Go.ChangeShapes Go.WideShapes Go.ChangeAt Go.RowKit Go.Joins
open Go.ChangeMaps (open_string shut_string)


theorem reads_len {w : World} {s : ByteArray} {e : Ending} {w' : World} (h : ReadsT w s e w') : ∃ v, e = .returned (.tuple #[v, .bool (toksR s).isSome]) ∧ w'.ownsRow w.heap.size 31 3 v (((toksR s).getD []).map tkV).length (rowT (((toksR s).getD []).map tkV)) ∧ Below w.heap.size w w' := by
  obtain ⟨v, h1, h2, h3⟩ := h
  exact ⟨v, h1, by rw [List.length_map]; exact h2, h3⟩

set_option maxRecDepth 100000 in
set_option maxHeartbeats 4000000 in
theorem walk (A : Option Addr) (len cap : Nat) (w : World) (h : InCode w A len cap) (hw : LaidW w) :
    Calls Tryd.prog 4 #[.slice A len cap] w fun e w' => e = .returned (.bool true) ∧ Below w.heap.size w w' := by
  have hlc : len ≤ 9223372036854775807 := by have h1 := h.1; have h2 := h.2.1; unfold maxLen at h2; omega
  have HD := Lib.hid (drawTokText_any A len cap w h)
  have HW := Lib.hid hw
  clear h hw
  by_cases hl : 1048576 < len
  · have q0 : decide ((1048576 : Int) < (len : Int)) = true := by simp; omega
    go_enter Tryd.func4, Tryd.ntmps4
    go_wp2_with fail
    go_ret
    exact ⟨rfl, Below.refl _ _⟩
  · have q0 : decide ((1048576 : Int) < (len : Int)) = false := by simp; omega
    clear hl
    go_enter Tryd.func4, Tryd.ntmps4
    go_wp2_with fail
    refine HD.out.mono ?_
    rintro e w1 ⟨v, zs, hz6, hall, rfl, hv, hb1⟩
    obtain ⟨Z, c, rfl, hc⟩ := own_slice hv
    have HZ := Lib.hid (SlIs.own hv)
    have htot := tot_le zs 7 (fun z hz => (hall z hz).2.2)
    have htot2 : tot zs ≤ 48 := Nat.le_trans htot (Nat.mul_le_mul_right 8 hz6)
    have hjs : (joinK zs zs.length).size ≤ 120 := by have := joinK_size zs zs.length (Nat.le_refl _); rw [List.take_length] at this; omega
    have HTR := Lib.hid (toksR_join zs (fun z hz => (hall z hz).1) hjs)
    have HTL := Lib.hid (fun k => tot_take_le zs k)
    have HTT := Lib.hid (tokText_any Z c zs w1 (by omega) hc HZ.out)
    have HST := Lib.hid (fun W hb => specTokText_any Z c zs W (by omega) (HZ.out.below hb))
    have HTS := Lib.hid (fun k h => tot_take_succ zs k h)
    have HIM := Lib.hid (fun W hW => (tokLine_any (joinK zs zs.length) W (by omega) hW).mono (fun _ _ h => reads_len h))
    rw [HTR.out] at HIM
    simp only [Option.isSome_some, Option.getD_some] at HIM
    have HXG := Lib.hid (fun i (hi : i < zs.length) => joinToks_get zs zs.length i hi (Nat.le_refl _))
    have hxl : ((joinToks zs zs.length).map tkV).length = zs.length := by rw [List.length_map, joinToks_length]
    have HXL := Lib.hid hxl
    rw [hxl] at HIM
    have HXX := Lib.hid (show ∀ i (hi : i < zs.length), ((joinToks zs zs.length).map tkV)[i]'(by rw [HXL.out]; exact hi) = ((kindL (L zs[i]) : Int), zs[i], ((tot (zs.take i) : Nat) : Int)) from fun i hi => by rw [List.getElem_map]; exact HXG.out i hi)
    generalize (joinToks zs zs.length).map tkV = xs at *
    generalize joinK zs zs.length = s at *
    clear hxl HXG hall hv HD htot HTR
    go_wp2_with fail
    refine HTT.out.mono ?_
    rintro e w2 ⟨rfl, hb2'⟩
    have hb2 := hb1.trans (hb2'.mono hb1.size)
    go_wp2_with fail
    refine (HIM.out _ (HW.out.below hb2)).mono ?_
    rintro e w3 ⟨v, rfl, hv, hb3'⟩
    have hb3 := hb2.trans (hb3'.mono hb2.size)
    have hb13 := hb2'.trans (hb3'.mono hb2'.size)
    obtain ⟨B, d, rfl, hd⟩ := own_sliceK hv
    have HX := Lib.hid (SlIs.ownK hv)
    clear hv HIM HTT
    have q1 : (!s.toList == s.toList) = false := by simp
    have q2 : ((zs.length : Int) != (zs.length : Int)) = false := by simp
    go_wp2_with fail
    refine (HST.out w3 hb13).mono ?_
    rintro e w' ⟨rfl, rfl⟩
    clear HST
    go_wp2_with fail
    go_loopw [7, 8] (fun a i wr => ∃ k m : Nat, a = .int .i64 (m : Int) ∧ i = .int .i64 (k : Int) ∧ k ≤ zs.length ∧ Hid (m = tot (zs.take k)) ∧ ∃ n, wr = w3.drewN n) (fun _ i _ => zs.length - (intOf i).toNat)
    case atStart => exact ⟨0, 0, rfl, rfl, Nat.zero_le _, rfl, 0, rfl⟩
    case round =>
      obtain ⟨k, m, rfl, rfl, hk, HM, n, rfl⟩ := hrel
      have hm48 : m ≤ 48 := by have := HM.out; have := HTL.out k; omega
      by_cases hlt : k < zs.length
      · have hx : (k : Int) < (zs.length : Int) := by omega
        obtain ⟨g, off, rfl, hg, c0, c1, c2⟩ := HX.out.tok (k := k) (by rw [HXL.out]; exact hlt)
        rw [HXX.out k hlt] at c0 c1 c2
        simp only at c0 c1 c2
        rw [← HM.out] at c2
        have hzz := ((HZ.out.below hb13).at_ (k := k) (by rw [List.length_map]; exact hlt))
        obtain ⟨g', off', rfl, hg', hc'⟩ := hzz
        simp only [List.getElem_map, strV] at hc'
        have HM2 := Lib.hid (show m + (zs[k].size + 1) = tot (zs.take (k + 1)) by rw [HTS.out k hlt, ← HM.out])
        have hms : m + (zs[k].size + 1) ≤ 48 := by have := HM2.out; have := HTL.out (k + 1); omega
        generalize kindL (L zs[k]) = kd at *
        generalize zs[k] = t at *
        have q3 : (!t.toList == t.toList) = false := by simp
        have q4 : ((m : Int) != (m : Int)) = false := by simp
        go_wp2_with fail
        go_quiet (fail)
        go_wp2_with fail
        go_roundw
        case rel => exact ⟨k + 1, m + (t.size + 1), by go_num, by go_num, by omega, HM2, n + nq, rfl⟩
        case measure => simp [intOf]; omega
      · go_wp2_with fail
        go_ret
        exact ⟨rfl, hb3.trans ((below_draws n).mono hb3.size)⟩


set_option linter.unusedVariables false in
set_option maxRecDepth 100000 in
theorem lifted (os : Os) (started : os.Started) (H : Type) (enc : TypeId × Value → H) :
    ReturnsInHanded {} Tryd.checked os 4 .any (fun w args => (Rows.fnTokTextSpec.pre enc Tryd.prog Tryd.f4 [] false w args ∧ laidMetH Tryd.prog laidL w) ∧ sizedMet enc Tryd.prog Tryd.f4 (OpenSpec.ofChange Rows.fnTokTextSpec) false w args)
      (Rows.fnTokTextSpec.post enc Tryd.prog Tryd.f4 false true false false) := by
  refine returnsInHanded_of_change_and (C := Tryd.checked) (X := fun w _ => laidMetH Tryd.prog laidL w) (fun _ _ _ hh h => h.of_heap hh) own started (by kernel_rfl) Tryd.func4
    (ChangeSpec.witness_shaped (enc := enc) (C := Tryd.checked) (os := os) (X := fun w _ => laidMetH Tryd.prog laidL w) false (World.doorLaid Tryd.prog 62 os) #[.slice none 0 0] 8 rfl (World.shaped_of_RefB (by kernel_rfl) (by kernel_rfl)) (by kernel_rfl) (by kernel_rfl) (by kernel_rfl) (door_met os _)) ?_
  intro W base args ds gs before hval0 hW _ _ hL _
  have hval : ∀ (j : Nat) t v, Tryd.f4.params[j]? = some t → args[j]? = some v → Value.okWide Tryd.prog W .any base t v := hval0
  have hW' := hW
  obtain ⟨p, q, hA0, hV, rfl, hfz, hnd⟩ := hW
  have hA : DataW.TrodAll enc Tryd.prog W 0 (fun _ => true) true Tryd.f4.params.toList args.toList ds p := hA0
  rw [Tryd.params4] at hA hval
  obtain ⟨v0, vs0, d0, ds0, p0, q0, hargs, rfl, rfl, h0, r0⟩ := trodAll_cons hA
  obtain ⟨rfl, rfl, rfl⟩ := trodAll_nil r0
  obtain rfl : args = #[v0] := by cases args; simp_all
  obtain ⟨rfl, rfl⟩ := trodVars_none hV
  have k0 := h0
  have lt0 : ∀ x ∈ p0, x.block < W.heap.size := by obtain ⟨m, hm⟩ := k0; exact DataW.trod_lt m _ _ _ hm
  obtain ⟨a0, len0, cap0, e0⟩ := okWide_slice Tryd.underlying22 (hval 0 22 v0 rfl rfl)
  subst e0
  have w0 : InCode W a0 len0 cap0 := by
    obtain ⟨fuel, hf⟩ := h0
    rcases open_ints Tryd.underlying22 Tryd.underlying5 (by kernel_rfl) hf with ⟨hcs, _⟩ | ⟨x, l, c, zs, hcs, _, hl, hm, hz, _, hcell, hwz⟩
    · simp [Value.cells] at hcs
      obtain ⟨rfl, rfl, rfl⟩ := hcs
      exact inCode_nil W
    · simp [Value.cells] at hcs
      obtain ⟨rfl, rfl, rfl⟩ := hcs
      exact inCode_of hl hm (by simpa using hz) hcell hwz
  clear hA0 hval0
  refine (walk a0 len0 cap0 W w0 (of_laid hL)).mono fun e W' ⟨he, bel⟩ => ?_
  subst he
  exact ⟨_, rfl, _, _, _, [], _, [], hW', trodAll_mk1 (shut_bool Tryd.underlying4 _), (trodAll_cons_mk (Below.trod laidOut (by kernel_rfl) (of_decide_eq_true (by kernel_rfl)) k0 bel lt0) trodAll_mk0), rfl, bel.frame _, fun h => by cases h⟩

theorem over : Rows.fnTokTextRow.holds Tryd.pinned (OpenSpec.ofChange Rows.fnTokTextSpec) :=
  OpenClaim.holds_of_wide 4 Tryd.f4 rfl rfl rfl rfl rfl rfl rfl ⟨rfl, rfl, rfl, rfl, rfl⟩ rfl rfl rfl rfl rfl (by kernel_rfl) Tryd.func4 (by kernel_rfl)
    (of_decide_eq_true (by kernel_rfl)) (by unfold Func.isWrapper; first | (rw [if_pos (by decide +kernel)]; kernel_rfl) | (rw [if_neg (by decide +kernel)]; exact ⟨rfl, rfl⟩))
    (fun os started H enc _ => lifted os started H enc)
end Go.Proofs.YtfepifcpcfoaaaaDoor.fnTokText
namespace Go.Proofs.YtfepifcpcfoaaaaDoor

/-- The given statement. -/
theorem fnTokText_proved : Rows.FnTokTextCardSaid :=
  Claim7.holds_tied_plain_at .later [] [.data, .data, .data, .sentinel, .sentinel] true (true, "29ed2e23a74b36dc8cab4763febb46758cd644b74055fc42faa0c447b9c48a81") true
    fnTokText.over (fun _ h => by cases h) (by kernel_rfl) (fun _ h => by cases h) fnTokText_row_tie rfl ⟨rfl, rfl⟩ (by kernel_rfl) rfl
    (fun f fn hf hfn => by
      obtain rfl : f = 4 := Option.some.inj ((show Tryd.prog.funcNamed "loop.example/interlinear/laws.FnTokText" = some 4 by kernel_rfl).symm.trans hf) |>.symm
      obtain rfl : fn = Tryd.f4 := (Option.some.inj (Tryd.func4.symm.trans hfn)).symm
      exact ⟨by kernel_rfl, fun j t ht => by
        rw [Tryd.params4] at ht
        have hm : t ∈ [22] := by simpa using Array.mem_of_getElem? ht
        have hall : ([22].all fun u => !Tryd.prog.wantsStandIn u) = true := by kernel_rfl
        exact (show Tryd.prog.wantsStandIn t = false by simpa using List.all_eq_true.1 hall t hm)⟩)
    (by kernel_rfl)
#print axioms fnTokText_proved
end Go.Proofs.YtfepifcpcfoaaaaDoor
