/-
  'laws.FnTokCat' returns true at every two codes: the words of two drawn lines with a space between are those of both, the second as much further on.
  Conditions: the library's variables hold what their initialisers lay (tied to the program's text); every two slices of bytes.
-/
import Derived.Test.YtfepifcpcfoaaaaDoorTokLaw
import Derived.Test.YtfepifcpcfoaaaaDoorImplLine
import Derived.Test.YtfepifcpcfoaaaaDoorLaid
import Derived.Test.YtfepifcpcfoaaaaDoorCards
import Derived.Test.YtfepifcpcfoaaaaDoorTie
import Derived.Test.YtfepifcpcfoaaaaDoorRows
import Derived.WalkKit
import Derived.ProofKit
import Derived.OpenShut
import Derived.ShutString
import Derived.ChangeOld
import Derived.Below
import Derived.Lib.SmallJoins
import Derived.SliceStrings
namespace Go.Proofs.YtfepifcpcfoaaaaDoor.fnTokCat
open Go.ChangeShapes Go.WideShapes Go.ChangeAt Go.RowKit Go.Joins
open Go.ChangeMaps (open_string shut_string)


theorem reads_len {w : World} {s : ByteArray} {e : Ending} {w' : World} (h : ReadsT w s e w') : ∃ v, e = .returned (.tuple #[v, .bool (toksR s).isSome]) ∧ w'.ownsRow w.heap.size 31 3 v (((toksR s).getD []).map tkV).length (rowT (((toksR s).getD []).map tkV)) ∧ Below w.heap.size w w' := by
  obtain ⟨v, h1, h2, h3⟩ := h
  exact ⟨v, h1, by rw [List.length_map]; exact h2, h3⟩
theorem below_drewN {B : Nat} {w W : World} (h : Below B w W) (n : Nat) : Below B w (W.drewN n) := ⟨h.os, h.tape, h.output, h.size, h.block⟩
theorem neqTok_same (a c : Int) (s : ByteArray) (w : World) : Sem.run Tryd.prog (binOp .neq 31 (.agg #[.int .i64 a, .string s, .int .i64 c]) (.agg #[.int .i64 a, .string s, .int .i64 c])) w = .ok (.bool false) w := by
  rw [neqTok, (eqTv_iff _ _).2 rfl]; rfl
/-- What is told of the two lines, and of both with a space between. -/
theorem cat_all (a b : ByteArray) : ∃ (xs ys zs : List Tv) (ok fine : Bool), ((toksR a).getD []).map tkV = xs ∧ (toksR a).isSome = ok ∧ ((toksR b).getD []).map tkV = ys ∧ (toksR b).isSome = fine ∧ ((toksR (a ++ ⟨#[32]⟩ ++ b)).getD []).map tkV = zs ∧
    (toksR (a ++ ⟨#[32]⟩ ++ b)).isSome = (ok && (fine && decide (a.size + b.size < 120))) ∧
    ((ok && (fine && decide (a.size + b.size < 120))) = true → zs = xs ++ ys.map (shiftV (a.size + 1))) ∧ ((ok && (fine && decide (a.size + b.size < 120))) = false → zs = []) ∧
    (∀ y ∈ ys, 0 ≤ y.2.2 ∧ y.2.2 ≤ 120) ∧ xs.length ≤ 120 ∧ ys.length ≤ 120 ∧ zs.length ≤ 120 := by
  refine ⟨_, _, _, _, _, rfl, rfl, rfl, rfl, rfl, ?_, ?_, ?_, ?_, ?_, ?_, ?_⟩
  · rw [toksR_cat]
    by_cases h : a.size + b.size < 120
    · rw [if_pos h, decide_eq_true h]
      cases toksR a <;> cases toksR b <;> rfl
    · rw [if_neg h, decide_eq_false h]
      simp
  · intro h
    rw [Bool.and_eq_true, Bool.and_eq_true, decide_eq_true_eq] at h
    rw [toksR_cat, if_pos h.2.2]
    cases ha : toksR a with
    | none => rw [ha] at h; simp at h
    | some x =>
      cases hb : toksR b with
      | none => rw [hb] at h; simp at h
      | some y =>
        simp only [Option.bind_some, Option.map_some, Option.getD_some, List.map_append, List.map_map]
        congr 1
  · intro h
    rw [toksR_cat]
    by_cases hs : a.size + b.size < 120
    · rw [if_pos hs]
      rw [decide_eq_true hs] at h
      cases ha : toksR a with
      | none => rfl
      | some x =>
        cases hb : toksR b with
        | none => rfl
        | some y => rw [ha, hb] at h; simp at h
    · rw [if_neg hs]; rfl
  · intro y hy
    obtain ⟨t, ht, rfl⟩ := List.mem_map.1 hy
    cases hb : toksR b with
    | none => rw [hb] at ht; simp at ht
    | some ts =>
      rw [hb] at ht
      have := toksR_cols hb t ht
      simp only [tkV]
      omega
  · rw [List.length_map]; exact toksR_length a
  · rw [List.length_map]; exact toksR_length b
  · rw [List.length_map]; exact toksR_length _

set_option maxRecDepth 100000 in
set_option maxHeartbeats 8000000 in
theorem walk (A : Option Addr) (len cap : Nat) (B : Option Addr) (len' cap' : Nat) (w : World) (h : InCode w A len cap) (h' : InCode w B len' cap') (hw : LaidW w) :
    Calls Tryd.prog 6 #[.slice A len cap, .slice B len' cap'] w fun e w' => e = .returned (.bool true) ∧ Below w.heap.size w w' := by
  have hlc : len ≤ 9223372036854775807 := by have h1 := h.1; have h2 := h.2.1; unfold maxLen at h2; omega
  have hlc' : len' ≤ 9223372036854775807 := by have h1 := h'.1; have h2 := h'.2.1; unfold maxLen at h2; omega
  have HI := Lib.hid h
  have HI' := Lib.hid h'
  have HW := Lib.hid hw
  clear h h' hw
  by_cases hl : 1048576 < len
  · have q0 : decide ((1048576 : Int) < (len : Int)) = true := by simp; omega
    go_enter Tryd.func6, Tryd.ntmps6
    go_wp2_with fail
    go_ret
    exact ⟨rfl, Below.refl _ _⟩
  · have q0 : decide ((1048576 : Int) < (len : Int)) = false := by simp; omega
    by_cases hl' : 1048576 < len'
    · have q0' : decide ((1048576 : Int) < (len' : Int)) = true := by simp; omega
      go_enter Tryd.func6, Tryd.ntmps6
      go_wp2_with fail
      go_ret
      exact ⟨rfl, Below.refl _ _⟩
    · have q0' : decide ((1048576 : Int) < (len' : Int)) = false := by simp; omega
      have HD1 := Lib.hid (drawTokLine_any A len cap w HI.out)
      clear hl hl'
      go_enter Tryd.func6, Tryd.ntmps6
      go_wp2_with fail
      refine HD1.out.mono ?_
      rintro e w1 ⟨a, hsa, rfl, hb1⟩
      have HD2 := Lib.hid (drawTokLine_any B len' cap' w1 (HI'.out.below hb1))
      clear HD1
      go_wp2_with fail
      refine HD2.out.mono ?_
      rintro e w2 ⟨b, hsb, rfl, hb2'⟩
      have hb2 := hb1.trans (hb2'.mono hb1.size)
      clear HD2 HI HI'
      have HIa := Lib.hid (fun W hW => (tokLine_any a W (by omega) hW).mono (fun _ _ h => reads_len h))
      have HSa := Lib.hid (fun W => (specTokLine_any a W (by omega)).mono (fun _ _ h => reads_len h))
      have HIb := Lib.hid (fun W hW => (tokLine_any b W (by omega) hW).mono (fun _ _ h => reads_len h))
      have hsz : (a ++ ⟨#[32]⟩ ++ b).size = a.size + 1 + b.size := by rw [ByteArray.size_append, ByteArray.size_append]; rfl
      have HIc := Lib.hid (fun W hW => (tokLine_any (a ++ ⟨#[32]⟩ ++ b) W (by omega) hW).mono (fun _ _ h => reads_len h))
      clear hsz
      obtain ⟨xs, ys, zs, ok, fine, ex, eo, ey, ef, ez, ec, hyes, hno, hcol, hxl, hyl, hzl⟩ := cat_all a b
      rw [ex, eo] at HIa HSa
      rw [ey, ef] at HIb
      rw [ez, ec] at HIc
      clear ex eo ey ef ez ec
      have HY := Lib.hid hyes
      have HN := Lib.hid hno
      have HC := Lib.hid hcol
      clear hyes hno hcol
      have q1 : (ok != ok) = false := by simp
      go_wp2_with fail
      refine (HIa.out _ (HW.out.below hb2)).mono ?_
      rintro e w3 ⟨v, rfl, hv, hb3'⟩
      have hb3 := hb2.trans (hb3'.mono hb2.size)
      obtain ⟨X, cx, rfl, _⟩ := own_sliceK hv
      have HX := Lib.hid (SlIs.ownK hv)
      clear hv HIa
      go_wp2_with fail
      refine (HSa.out _).mono ?_
      rintro e w4 ⟨v, rfl, hv, hb4'⟩
      have hb4 := hb3.trans (hb4'.mono hb3.size)
      obtain ⟨V, cv, rfl, _⟩ := own_sliceK hv
      have HV := Lib.hid (SlIs.ownK hv)
      clear hv HSa
      go_wp2_with fail
      refine (HIb.out _ (HW.out.below hb4)).mono ?_
      rintro e w5 ⟨v, rfl, hv, hb5'⟩
      have hb5 := hb4.trans (hb5'.mono hb4.size)
      have hb35 := hb4'.trans (hb5'.mono hb4'.size)
      obtain ⟨Y, cy, rfl, _⟩ := own_sliceK hv
      have HYS := Lib.hid (SlIs.ownK hv)
      clear hv HIb
      have HTS := Lib.hid (tokSame_any X V cx cv xs xs w5 (by omega) (HX.out.below hb35) (HV.out.below hb5'))
      rw [show sameT xs xs = true by simp [sameT]] at HTS
      go_wp2_with fail
      refine HTS.out.mono ?_
      rintro e w6 ⟨rfl, n6, hw6⟩
      have hb6' : Below w5.heap.size w5 w6 := by rw [hw6]; exact below_draws n6
      have hb6 := hb5.trans (hb6'.mono hb5.size)
      clear hw6 HTS
      go_wp2_with fail
      refine (HIc.out _ (HW.out.below hb6)).mono ?_
      rintro e w7 ⟨v, rfl, hv, hb7'⟩
      have hb7 := hb6.trans (hb7'.mono hb6.size)
      have hb57 := hb6'.trans (hb7'.mono hb6'.size)
      obtain ⟨Z, cz, rfl, _⟩ := own_sliceK hv
      have HZS := Lib.hid (SlIs.ownK hv)
      have HX7 := Lib.hid ((HX.out.below hb35).below hb57)
      have HY7 := Lib.hid (HYS.out.below hb57)
      clear hv HIc HX HYS HV
      by_cases hcan : (ok && (fine && decide (a.size + b.size < 120))) = true
      · have hc3 := hcan
        rw [Bool.and_eq_true, Bool.and_eq_true, decide_eq_true_eq] at hc3
        obtain ⟨rfl, rfl, hlt120⟩ := hc3
        have q2 : decide ((a.size : Int) + (b.size : Int) < 120) = true := by simp; omega
        have HZE := Lib.hid (HY.out hcan)
        have hd120 : decide (a.size + b.size < 120) = true := by simpa using hlt120
        rw [hd120]
        simp only [Bool.and_self]
        clear hcan HY HN hd120 q1
        have hzlen : zs.length = xs.length + ys.length := by rw [HZE.out, List.length_append, List.length_map]
        have HZL := Lib.hid hzlen
        clear hzlen
        have hne := neqTok_same
        have hgd := guardTok
        go_wp2_with fail
        go_loopw [15] (fun i wr => ∃ k : Nat, i = .int .i64 (k : Int) ∧ k ≤ zs.length ∧ Below w7.heap.size w7 wr) (fun i _ => zs.length - (intOf i).toNat)
        case atStart => exact ⟨0, rfl, Nat.zero_le _, Below.refl _ _⟩
        case round =>
          obtain ⟨k, rfl, hk, hB⟩ := hrel
          by_cases hlt : k < zs.length
          · have q3 : (k : Int) < (zs.length : Int) := by omega
            obtain ⟨g, off, rfl, hg, c0, c1, c2⟩ := (HZS.out.below hB).tok hlt
            by_cases hx : k < xs.length
            · have q4 : (k : Int) < (xs.length : Int) := by omega
              obtain ⟨g', off', rfl, hg', d0, d1, d2⟩ := (HX7.out.below hB).tok hx
              have he : zs[k] = xs[k] := by
                have := HZE.out
                simp only [this, List.getElem_append_left hx]
              rw [he] at c0 c1 c2
              clear he
              generalize xs[k] = t at *
              obtain ⟨ta, ts, tc⟩ := t
              simp only at c0 c1 c2 d0 d1 d2
              have hgn : ¬ g = wr.heap.size := by omega
              go_wp2_with fail
              go_quiet (fail)
              go_wp2_with fail
              go_roundw
              case rel => exact ⟨k + 1, by go_num, by omega, below_drewN (hB.alloc hB.size _) nq⟩
              case measure => simp [intOf]; omega
            · have q4 : decide ((k : Int) < (xs.length : Int)) = false := by simp; omega
              have hky : k - xs.length < ys.length := by have := HZL.out; omega
              obtain ⟨g', off', rfl, hg', d0, d1, d2⟩ := (HY7.out.below hB).tok hky
              have he : zs[k] = shiftV (a.size + 1) ys[k - xs.length] := by
                have := HZE.out
                simp only [this, List.getElem_append_right (Nat.le_of_not_lt hx), List.getElem_map]
              rw [he] at c0 c1 c2
              have hcl := HC.out _ (List.getElem_mem hky)
              clear he
              have i1 : IntKind.i64.wrap ((k : Int) - (xs.length : Int)) = ((k - xs.length : Nat) : Int) := by
                rw [show ((k - xs.length : Nat) : Int) = (k : Int) - (xs.length : Int) by omega]
                exact IntWalk.i64_in _ (by omega)
              have i2 : ((k - xs.length : Nat) : Int) < (ys.length : Int) := by omega
              have i3 : (0 : Int) ≤ ((k - xs.length : Nat) : Int) := by omega
              have i4 : (((k - xs.length : Nat) : Int)).toNat = k - xs.length := by omega
              have i5 : (k : Int) - (xs.length : Int) = ((k - xs.length : Nat) : Int) := by omega
              generalize ys[k - xs.length] = t at *
              generalize k - xs.length = j at *
              obtain ⟨ta, ts, tc⟩ := t
              unfold shiftV at c0 c1 c2
              simp only at c0 c1 c2 d0 d1 d2 hcl
              rw [show tc + ((a.size + 1 : Nat) : Int) = tc + (a.size : Int) + 1 by omega] at c2
              have hc0 := hcl.1
              have hc1 := hcl.2
              clear hcl
              have hgn : ¬ g = wr.heap.size := by omega
              go_wp2_with fail
              go_quiet (fail)
              go_wp2_with fail
              go_roundw
              case rel => exact ⟨k + 1, by go_num, by omega, below_drewN (hB.alloc hB.size _) nq⟩
              case measure => simp [intOf]; omega
          · have q3 : decide ((k : Int) < (zs.length : Int)) = false := by simp; omega
            have q5 : ((zs.length : Int) == (xs.length : Int) + (ys.length : Int)) = true := by rw [beq_iff_eq]; have := HZL.out; omega
            go_wp2_with fail
            go_ret
            exact ⟨rfl, hb7.trans (hB.mono hb7.size)⟩
      · rw [Bool.not_eq_true] at hcan
        obtain rfl : zs = [] := HN.out hcan
        rw [hcan]
        have HCN := Lib.hid hcan
        clear hcan HY HN
        cases ok
        · go_wp2_with fail
          go_ret
          exact ⟨rfl, hb7⟩
        · cases fine
          · go_wp2_with fail
            go_ret
            exact ⟨rfl, hb7⟩
          · have q2 : decide ((a.size : Int) + (b.size : Int) < 120) = false := by
              have h1 := HCN.out
              simp only [Bool.true_and, decide_eq_false_iff_not] at h1
              rw [decide_eq_false_iff_not]; omega
            go_wp2_with fail
            go_ret
            exact ⟨rfl, hb7⟩


set_option linter.unusedVariables false in
set_option maxRecDepth 100000 in
theorem lifted (os : Os) (started : os.Started) (H : Type) (enc : TypeId × Value → H) :
    ReturnsInHanded {} Tryd.checked os 6 .any (fun w args => (Rows.fnTokCatSpec.pre enc Tryd.prog Tryd.f6 [] false w args ∧ laidMetH Tryd.prog laidL w) ∧ sizedMet enc Tryd.prog Tryd.f6 (OpenSpec.ofChange Rows.fnTokCatSpec) false w args)
      (Rows.fnTokCatSpec.post enc Tryd.prog Tryd.f6 false true false false) := by
  refine returnsInHanded_of_change_and (C := Tryd.checked) (X := fun w _ => laidMetH Tryd.prog laidL w) (fun _ _ _ hh h => h.of_heap hh) own started (by kernel_rfl) Tryd.func6
    (ChangeSpec.witness_shaped (enc := enc) (C := Tryd.checked) (os := os) (X := fun w _ => laidMetH Tryd.prog laidL w) false (World.doorLaid Tryd.prog 62 os) #[.slice none 0 0, .slice none 0 0] 8 rfl (World.shaped_of_RefB (by kernel_rfl) (by kernel_rfl)) (by kernel_rfl) (by kernel_rfl) (by kernel_rfl) (door_met os _)) ?_
  intro W base args ds gs before hval0 hW _ _ hL _
  have hval : ∀ (j : Nat) t v, Tryd.f6.params[j]? = some t → args[j]? = some v → Value.okWide Tryd.prog W .any base t v := hval0
  have hW' := hW
  obtain ⟨p, q, hA0, hV, rfl, hfz, hnd⟩ := hW
  have hA : DataW.TrodAll enc Tryd.prog W 0 (fun _ => true) true Tryd.f6.params.toList args.toList ds p := hA0
  rw [Tryd.params6] at hA hval
  obtain ⟨v0, vs0, d0, ds0, p0, q0, hargs, rfl, rfl, h0, r0⟩ := trodAll_cons hA
  obtain ⟨v1, vs1, d1, ds1, p1, q1, rfl, rfl, rfl, h1, r1⟩ := trodAll_cons r0
  obtain ⟨rfl, rfl, rfl⟩ := trodAll_nil r1
  obtain rfl : args = #[v0, v1] := by cases args; simp_all
  obtain ⟨rfl, rfl⟩ := trodVars_none hV
  have k0 := h0
  have lt0 : ∀ x ∈ p0, x.block < W.heap.size := by obtain ⟨m, hm⟩ := k0; exact DataW.trod_lt m _ _ _ hm
  have k1 := h1
  have lt1 : ∀ x ∈ p1, x.block < W.heap.size := by obtain ⟨m, hm⟩ := k1; exact DataW.trod_lt m _ _ _ hm
  obtain ⟨a0, len0, cap0, e0⟩ := okWide_slice Tryd.underlying22 (hval 0 22 v0 rfl rfl)
  subst e0
  have w0 : InCode W a0 len0 cap0 := by
    obtain ⟨fuel, hf⟩ := h0
    rcases open_ints Tryd.underlying22 Tryd.underlying5 (by kernel_rfl) hf with ⟨hcs, _⟩ | ⟨x, l, c, zs, hcs, _, hl, hm, hz, _, hcell, hwz⟩
    · simp [Value.cells] at hcs
      obtain ⟨rfl, rfl, rfl⟩ := hcs
      exact inCode_nil W
    · simp [Value.cells] at hcs
      obtain ⟨rfl, rfl, rfl⟩ := hcs
      exact inCode_of hl hm (by simpa using hz) hcell hwz
  obtain ⟨a1, len1, cap1, e1⟩ := okWide_slice Tryd.underlying22 (hval 1 22 v1 rfl rfl)
  subst e1
  have w1 : InCode W a1 len1 cap1 := by
    obtain ⟨fuel, hf⟩ := h1
    rcases open_ints Tryd.underlying22 Tryd.underlying5 (by kernel_rfl) hf with ⟨hcs, _⟩ | ⟨x, l, c, zs, hcs, _, hl, hm, hz, _, hcell, hwz⟩
    · simp [Value.cells] at hcs
      obtain ⟨rfl, rfl, rfl⟩ := hcs
      exact inCode_nil W
    · simp [Value.cells] at hcs
      obtain ⟨rfl, rfl, rfl⟩ := hcs
      exact inCode_of hl hm (by simpa using hz) hcell hwz
  clear hA0 hval0
  refine (walk a0 len0 cap0 a1 len1 cap1 W w0 w1 (of_laid hL)).mono fun e W' ⟨he, bel⟩ => ?_
  subst he
  exact ⟨_, rfl, _, _, _, [], _, [], hW', trodAll_mk1 (shut_bool Tryd.underlying4 _), (trodAll_cons_mk (Below.trod laidOut (by kernel_rfl) (of_decide_eq_true (by kernel_rfl)) k0 bel lt0) (trodAll_cons_mk (Below.trod laidOut (by kernel_rfl) (of_decide_eq_true (by kernel_rfl)) k1 bel lt1) trodAll_mk0)), rfl, bel.frame _, fun h => by cases h⟩

theorem over : Rows.fnTokCatRow.holds Tryd.pinned (OpenSpec.ofChange Rows.fnTokCatSpec) :=
  OpenClaim.holds_of_wide 6 Tryd.f6 rfl rfl rfl rfl rfl rfl rfl ⟨rfl, rfl, rfl, rfl, rfl⟩ rfl rfl rfl rfl rfl (by kernel_rfl) Tryd.func6 (by kernel_rfl)
    (of_decide_eq_true (by kernel_rfl)) (by unfold Func.isWrapper; first | (rw [if_pos (by decide +kernel)]; kernel_rfl) | (rw [if_neg (by decide +kernel)]; exact ⟨rfl, rfl⟩))
    (fun os started H enc _ => lifted os started H enc)
end Go.Proofs.YtfepifcpcfoaaaaDoor.fnTokCat
namespace Go.Proofs.YtfepifcpcfoaaaaDoor

/-- The given statement. -/
theorem fnTokCat_proved : Rows.FnTokCatCardSaid :=
  Claim7.holds_tied_plain_at .later [] [.data, .data, .data, .sentinel, .sentinel] true (true, "29ed2e23a74b36dc8cab4763febb46758cd644b74055fc42faa0c447b9c48a81") true
    fnTokCat.over (fun _ h => by cases h) (by kernel_rfl) (fun _ h => by cases h) fnTokCat_row_tie rfl ⟨rfl, rfl⟩ (by kernel_rfl) rfl
    (fun f fn hf hfn => by
      obtain rfl : f = 6 := Option.some.inj ((show Tryd.prog.funcNamed "loop.example/interlinear/laws.FnTokCat" = some 6 by kernel_rfl).symm.trans hf) |>.symm
      obtain rfl : fn = Tryd.f6 := (Option.some.inj (Tryd.func6.symm.trans hfn)).symm
      exact ⟨by kernel_rfl, fun j t ht => by
        rw [Tryd.params6] at ht
        have hm : t ∈ [22, 22] := by simpa using Array.mem_of_getElem? ht
        have hall : ([22, 22].all fun u => !Tryd.prog.wantsStandIn u) = true := by kernel_rfl
        exact (show Tryd.prog.wantsStandIn t = false by simpa using List.all_eq_true.1 hall t hm)⟩)
    (by kernel_rfl)
#print axioms fnTokCat_proved
end Go.Proofs.YtfepifcpcfoaaaaDoor
