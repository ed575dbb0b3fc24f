/-
  'laws.FnTokSame' returns true at every code: two drawn lists of words are one just if all words, kinds and places are; with one taken away it is another one.
  Conditions: none; every slice of bytes.
-/
import Derived.Test.YtfepifcpcfoaaaaTokDraw
import Derived.Test.YtfepifcpcfoaaaaRows
import Derived.WalkKit
import Derived.ProofKit
import Derived.OpenShut
import Derived.ShutString
import Derived.ChangeOld
import Derived.Below
import Derived.Lib.SmallJoins
import Derived.SliceStrings
namespace Go.Proofs.Ytfepifcpcfoaaaa.fnTokSame
open Go.ChangeShapes Go.WideShapes Go.ChangeAt Go.RowKit Go.Joins
open Go.ChangeMaps (open_string shut_string)


theorem sameT_comm (xs ys : List Tv) : sameT xs ys = sameT ys xs := by unfold sameT; rw [decide_eq_decide]; exact ⟨Eq.symm, Eq.symm⟩
/-- A list is not the one without its first word. -/
theorem tail_other (g off c : Nat) (xs : List Tv) (w : World) (h0 : 0 < xs.length) (hl : xs.length ≤ 2 ^ 40) (hX : SlIs w (some ⟨g, off, none⟩) (rowT xs)) :
    Calls Try.prog 7 #[.slice (some ⟨g, off, none⟩) xs.length c, .slice (some ⟨g, off + 3, none⟩) (xs.length - 1) (c - 1)] w fun e w' => e = .returned (.bool false) ∧ ∃ n, w' = w.drewN n := by
  cases xs with
  | nil => simp at h0
  | cons x xs =>
    have := tokSame_any (some ⟨g, off, none⟩) (some ⟨g, off + 3, none⟩) c (c - 1) (x :: xs) xs w hl hX hX.tail
    rw [sameT_short (by simp)] at this
    exact this
theorem tail_one (g off : Nat) (xs : List Tv) (w : World) (h0 : xs.length = 1) (hX : SlIs w (some ⟨g, off, none⟩) (rowT xs)) :
    Calls Try.prog 7 #[.slice (some ⟨g, off, none⟩) xs.length 1, .slice (some ⟨g, off, none⟩) 0 0] w fun e w' => e = .returned (.bool false) ∧ ∃ n, w' = w.drewN n := by
  have := tokSame_any (some ⟨g, off, none⟩) (some ⟨g, off, none⟩) 1 0 xs [] w (by omega) hX (.inl rfl)
  rw [sameT_short (by rw [h0]; decide)] at this
  exact this
theorem sameT_self (xs : List Tv) : sameT xs xs = true := by simp [sameT]

set_option maxRecDepth 100000 in
set_option maxHeartbeats 4000000 in
theorem walk (A : Option Addr) (len cap : Nat) (w : World) (h : InCode w A len cap) :
    Calls Try.prog 3 #[.slice A len cap] w fun e w' => e = .returned (.bool true) ∧ Below w.heap.size w w' := by
  have hlc : len ≤ 9223372036854775807 := by have h1 := h.1; have h2 := h.2.1; unfold maxLen at h2; omega
  have HD := Lib.hid (drawTokSame_any A len cap w h)
  clear h
  by_cases hl : 1048576 < len
  · have q0 : decide ((1048576 : Int) < (len : Int)) = true := by simp; omega
    go_enter Try.func3, Try.ntmps3
    go_wp2_with fail
    go_ret
    exact ⟨rfl, Below.refl _ _⟩
  · have q0 : decide ((1048576 : Int) < (len : Int)) = false := by simp; omega
    have hne := eqlTok
    have hgd := guardTok
    go_enter Try.func3, Try.ntmps3
    go_wp2_with fail
    refine HD.out.mono ?_
    rintro e w1 ⟨X, Y, c, d, xs, ys, rfl, hx, hy, hc, hX, hY, hb1⟩
    clear HD hl
    have HX := Lib.hid hX
    have HY := Lib.hid hY
    clear hX hY
    have HS1 := Lib.hid (tokSame_any X Y c d xs ys w1 (by omega) HX.out HY.out)
    have HS2 := Lib.hid (fun n => specTokSame_any X Y c d xs ys (w1.drewN n) (by omega) (HX.out.below (below_draws n)) (HY.out.below (below_draws n)))
    have HS3 := Lib.hid (fun n => tokSame_any X X c c xs xs (w1.drewN n) (by omega) (HX.out.below (below_draws n)) (HX.out.below (below_draws n)))
    have HS4 := Lib.hid (fun n => tokSame_any Y X d c ys xs (w1.drewN n) (by omega) (HY.out.below (below_draws n)) (HX.out.below (below_draws n)))
    rw [sameT_self] at HS3
    rw [sameT_comm] at HS4
    have HSH := Lib.hid (fun h => sameT_short (xs := xs) (ys := ys) h)
    have HSA := Lib.hid (fun k h1 h2 h => sameT_at (xs := xs) (ys := ys) (k := k) h1 h2 h)
    have HSL := Lib.hid (fun h1 h2 => sameT_all (xs := xs) (ys := ys) h1 h2)
    generalize sameT xs ys = sm at *
    have q1 : (sm != sm) = false := by simp
    have q2 : (sm == sm) = true := by simp
    go_wp2_with fail
    refine HS1.out.mono ?_
    rintro e w2 ⟨rfl, n2, rfl⟩
    go_wp2_with fail
    refine (HS2.out _).mono ?_
    rintro e w3 ⟨rfl, n3, hw3⟩
    rw [World.drewN_drewN] at hw3
    subst hw3
    go_wp2_with fail
    refine (HS3.out _).mono ?_
    rintro e w4 ⟨rfl, n4, hw4⟩
    rw [World.drewN_drewN] at hw4
    subst hw4
    go_wp2_with fail
    refine (HS4.out _).mono ?_
    rintro e w5 ⟨rfl, n5, hw5⟩
    rw [World.drewN_drewN] at hw5
    subst hw5
    generalize n2 + n3 + n4 + n5 = n0 at *
    clear HS1 HS2 HS3 HS4
    by_cases hxy : xs.length = ys.length
    · have q3 : ((xs.length : Int) == (ys.length : Int)) = true := by rw [beq_iff_eq]; omega
      have HXY := Lib.hid hxy
      clear hxy
      go_wp2_with fail
      go_loopw [6, 7] (fun a i wr => ∃ (al : Bool) (k : Nat), a = .bool al ∧ i = .int .i64 k ∧ k ≤ xs.length ∧ (∃ n, wr = w1.drewN n) ∧ Hid (if al then (∀ j (h1 : j < xs.length) (h2 : j < ys.length), j < k → eqTv xs[j] ys[j] = true) else sm = false)) (fun _ i _ => xs.length - (intOf i).toNat)
      case atStart => exact ⟨true, 0, rfl, rfl, Nat.zero_le _, ⟨_, rfl⟩, fun j _ _ h => absurd h (Nat.not_lt_zero _)⟩
      case round =>
        clear q3
        obtain ⟨al, k, rfl, rfl, hk, ⟨n, rfl⟩, HP⟩ := hrel
        cases al
        · obtain rfl : sm = false := HP.out
          clear HSH HSA HSL HXY hne hgd
          have hsplit : k < xs.length ∨ ¬ k < xs.length := Nat.lt_or_ge k xs.length |>.imp id Nat.not_lt.2
          rcases hsplit with hlt | hlt
          · have q4 : (k : Int) < (xs.length : Int) := by omega
            clear HP
            have h0 : 0 < xs.length := by omega
            · have q5 : ((xs.length : Int) == 0) = false := by rw [beq_eq_false_iff_ne]; omega
              obtain ⟨g, off, rfl, hg, _⟩ := HX.out.tok h0
              have i1 : (1 : Int) ≤ (xs.length : Int) := by omega
              by_cases hc1 : c = 1
              · subst hc1
                have HS := Lib.hid (fun n => tail_one g off xs (w1.drewN n) (by omega) (HX.out.below (below_draws n)))
                have i2 : (xs.length : Int) ≤ 1 := by omega
                go_wp2_with fail
                refine (HS.out _).mono ?_
                rintro e w6 ⟨rfl, n6, hw6⟩
                have hb6 : Below w1.heap.size w1 w6 := by rw [hw6, World.drewN_drewN]; exact below_draws _
                clear hw6
                go_wp2_with fail
                go_ret
                exact ⟨rfl, hb1.trans (hb6.mono hb1.size)⟩
              · have HS := Lib.hid (fun n => tail_other g off c xs (w1.drewN n) h0 (by omega) (HX.out.below (below_draws n)))
                have i2 : (xs.length : Int) ≤ (c : Int) := by omega
                go_wp2_with fail
                refine (HS.out _).mono ?_
                rintro e w6 ⟨rfl, n6, hw6⟩
                have hb6 : Below w1.heap.size w1 w6 := by rw [hw6, World.drewN_drewN]; exact below_draws _
                clear hw6
                go_wp2_with fail
                go_ret
                exact ⟨rfl, hb1.trans (hb6.mono hb1.size)⟩

          · have q4 : decide ((k : Int) < (xs.length : Int)) = false := by simp; omega
            clear HP
            by_cases h0 : 0 < xs.length
            · have q5 : ((xs.length : Int) == 0) = false := by rw [beq_eq_false_iff_ne]; omega
              obtain ⟨g, off, rfl, hg, _⟩ := HX.out.tok h0
              have i1 : (1 : Int) ≤ (xs.length : Int) := by omega
              by_cases hc1 : c = 1
              · subst hc1
                have HS := Lib.hid (fun n => tail_one g off xs (w1.drewN n) (by omega) (HX.out.below (below_draws n)))
                have i2 : (xs.length : Int) ≤ 1 := by omega
                go_wp2_with fail
                refine (HS.out _).mono ?_
                rintro e w6 ⟨rfl, n6, hw6⟩
                have hb6 : Below w1.heap.size w1 w6 := by rw [hw6, World.drewN_drewN]; exact below_draws _
                clear hw6
                go_wp2_with fail
                go_ret
                exact ⟨rfl, hb1.trans (hb6.mono hb1.size)⟩
              · have HS := Lib.hid (fun n => tail_other g off c xs (w1.drewN n) h0 (by omega) (HX.out.below (below_draws n)))
                have i2 : (xs.length : Int) ≤ (c : Int) := by omega
                go_wp2_with fail
                refine (HS.out _).mono ?_
                rintro e w6 ⟨rfl, n6, hw6⟩
                have hb6 : Below w1.heap.size w1 w6 := by rw [hw6, World.drewN_drewN]; exact below_draws _
                clear hw6
                go_wp2_with fail
                go_ret
                exact ⟨rfl, hb1.trans (hb6.mono hb1.size)⟩
            · have q5 : ((xs.length : Int) == 0) = true := by rw [beq_iff_eq]; omega
              go_wp2_with fail
              go_ret
              exact ⟨rfl, hb1.trans ((below_draws _).mono hb1.size)⟩

        · by_cases hlt : k < xs.length
          · have q4 : (k : Int) < (xs.length : Int) := by omega
            have hlt2 : k < ys.length := by have := HXY.out; omega
            have q5 : (k : Int) < (ys.length : Int) := by omega
            obtain ⟨g, off, rfl, hg, h0, h1, h2⟩ := HX.out.tok hlt
            obtain ⟨g', off', rfl, hg', h0', h1', h2'⟩ := HY.out.tok hlt2
            have HQ := Lib.hid (show eqTv xs[k] ys[k] = false → sm = false from fun h => HSA.out k hlt hlt2 h)
            have HQ2 := Lib.hid (show eqTv xs[k] ys[k] = true → ∀ j (h1 : j < xs.length) (h2 : j < ys.length), j < k + 1 → eqTv xs[j] ys[j] = true from fun hq j h1 h2 h => if e : j = k then by subst e; exact hq else HP.out j h1 h2 (by omega))
            generalize xs[k] = t at *
            generalize ys[k] = u at *
            obtain ⟨ta, ts, tc⟩ := t
            obtain ⟨ua, us, uc⟩ := u
            simp only at h0 h1 h2 h0' h1' h2'
            have hne2 := hne ta tc ua uc ts us
            generalize eqTv (ta, ts, tc) (ua, us, uc) = qb at *
            clear hne
            go_wp2_with fail
            go_quiet (fail)
            go_wp2_with fail
            go_roundw
            case rel =>
              refine ⟨qb, k + 1, rfl, by go_num, by omega, ⟨n + nq, rfl⟩, ?_⟩
              cases qb
              · exact HQ.out rfl
              · exact HQ2.out rfl
            case measure => simp [intOf]; omega
          · have q4 : decide ((k : Int) < (xs.length : Int)) = false := by simp; omega
            obtain rfl : sm = true := HSL.out HXY.out (fun j h1 h2 => HP.out j h1 h2 (by omega))
            clear HSH HSA HSL HXY HP hne hgd
            by_cases h0 : 0 < xs.length
            · have q5 : ((xs.length : Int) == 0) = false := by rw [beq_eq_false_iff_ne]; omega
              obtain ⟨g, off, rfl, hg, _⟩ := HX.out.tok h0
              have i1 : (1 : Int) ≤ (xs.length : Int) := by omega
              by_cases hc1 : c = 1
              · subst hc1
                have HS := Lib.hid (fun n => tail_one g off xs (w1.drewN n) (by omega) (HX.out.below (below_draws n)))
                have i2 : (xs.length : Int) ≤ 1 := by omega
                go_wp2_with fail
                refine (HS.out _).mono ?_
                rintro e w6 ⟨rfl, n6, hw6⟩
                have hb6 : Below w1.heap.size w1 w6 := by rw [hw6, World.drewN_drewN]; exact below_draws _
                clear hw6
                go_wp2_with fail
                go_ret
                exact ⟨rfl, hb1.trans (hb6.mono hb1.size)⟩
              · have HS := Lib.hid (fun n => tail_other g off c xs (w1.drewN n) h0 (by omega) (HX.out.below (below_draws n)))
                have i2 : (xs.length : Int) ≤ (c : Int) := by omega
                go_wp2_with fail
                refine (HS.out _).mono ?_
                rintro e w6 ⟨rfl, n6, hw6⟩
                have hb6 : Below w1.heap.size w1 w6 := by rw [hw6, World.drewN_drewN]; exact below_draws _
                clear hw6
                go_wp2_with fail
                go_ret
                exact ⟨rfl, hb1.trans (hb6.mono hb1.size)⟩
            · have q5 : ((xs.length : Int) == 0) = true := by rw [beq_iff_eq]; omega
              go_wp2_with fail
              go_ret
              exact ⟨rfl, hb1.trans ((below_draws _).mono hb1.size)⟩

    · have q3 : ((xs.length : Int) == (ys.length : Int)) = false := by rw [beq_eq_false_iff_ne]; omega
      obtain rfl : sm = false := HSH.out hxy
      clear hxy
      go_wp2_with fail
      go_loopw [6, 7] (fun a i wr => a = .bool false ∧ i = .int .i64 0 ∧ wr = w1.drewN n0) (fun _ i _ => 0)
      case atStart => exact ⟨rfl, rfl, rfl⟩
      case round =>
        clear q3 HSH HSA HSL
        obtain ⟨rfl, rfl, rfl⟩ := hrel
        by_cases hlt : 0 < xs.length
        · have q4 : (0 : Int) < (xs.length : Int) := by omega
          clear hne hgd
          have h0 : 0 < xs.length := by omega
          · have q5 : ((xs.length : Int) == 0) = false := by rw [beq_eq_false_iff_ne]; omega
            obtain ⟨g, off, rfl, hg, _⟩ := HX.out.tok h0
            have i1 : (1 : Int) ≤ (xs.length : Int) := by omega
            by_cases hc1 : c = 1
            · subst hc1
              have HS := Lib.hid (fun n => tail_one g off xs (w1.drewN n) (by omega) (HX.out.below (below_draws n)))
              have i2 : (xs.length : Int) ≤ 1 := by omega
              go_wp2_with fail
              refine (HS.out _).mono ?_
              rintro e w6 ⟨rfl, n6, hw6⟩
              have hb6 : Below w1.heap.size w1 w6 := by rw [hw6, World.drewN_drewN]; exact below_draws _
              clear hw6
              go_wp2_with fail
              go_ret
              exact ⟨rfl, hb1.trans (hb6.mono hb1.size)⟩
            · have HS := Lib.hid (fun n => tail_other g off c xs (w1.drewN n) h0 (by omega) (HX.out.below (below_draws n)))
              have i2 : (xs.length : Int) ≤ (c : Int) := by omega
              go_wp2_with fail
              refine (HS.out _).mono ?_
              rintro e w6 ⟨rfl, n6, hw6⟩
              have hb6 : Below w1.heap.size w1 w6 := by rw [hw6, World.drewN_drewN]; exact below_draws _
              clear hw6
              go_wp2_with fail
              go_ret
              exact ⟨rfl, hb1.trans (hb6.mono hb1.size)⟩

        · have q4 : decide ((0 : Int) < (xs.length : Int)) = false := by rw [decide_eq_false_iff_not]; omega
          clear hlt hne hgd
          by_cases h0 : 0 < xs.length
          · have q5 : ((xs.length : Int) == 0) = false := by rw [beq_eq_false_iff_ne]; omega
            obtain ⟨g, off, rfl, hg, _⟩ := HX.out.tok h0
            have i1 : (1 : Int) ≤ (xs.length : Int) := by omega
            by_cases hc1 : c = 1
            · subst hc1
              have HS := Lib.hid (fun n => tail_one g off xs (w1.drewN n) (by omega) (HX.out.below (below_draws n)))
              have i2 : (xs.length : Int) ≤ 1 := by omega
              go_wp2_with fail
              refine (HS.out _).mono ?_
              rintro e w6 ⟨rfl, n6, hw6⟩
              have hb6 : Below w1.heap.size w1 w6 := by rw [hw6, World.drewN_drewN]; exact below_draws _
              clear hw6
              go_wp2_with fail
              go_ret
              exact ⟨rfl, hb1.trans (hb6.mono hb1.size)⟩
            · have HS := Lib.hid (fun n => tail_other g off c xs (w1.drewN n) h0 (by omega) (HX.out.below (below_draws n)))
              have i2 : (xs.length : Int) ≤ (c : Int) := by omega
              go_wp2_with fail
              refine (HS.out _).mono ?_
              rintro e w6 ⟨rfl, n6, hw6⟩
              have hb6 : Below w1.heap.size w1 w6 := by rw [hw6, World.drewN_drewN]; exact below_draws _
              clear hw6
              go_wp2_with fail
              go_ret
              exact ⟨rfl, hb1.trans (hb6.mono hb1.size)⟩
          · have q5 : ((xs.length : Int) == 0) = true := by rw [beq_iff_eq]; omega
            go_wp2_with fail
            go_ret
            exact ⟨rfl, hb1.trans ((below_draws _).mono hb1.size)⟩

theorem own : ownKnob Try.prog.godebug = none := by kernel_rfl
theorem laidOut : laidOutB Try.prog = true := by kernel_rfl

set_option linter.unusedVariables false in
set_option maxRecDepth 100000 in
theorem lifted (os : Os) (started : os.Started) (H : Type) (enc : TypeId × Value → H) :
    ReturnsInHanded {} Try.checked os 3 .any (Rows.fnTokSameSpec.pre6 enc Try.prog Try.f3 Rows.fnTokSameRow.domain false) (Rows.fnTokSameSpec.post enc Try.prog Try.f3 false true false false) := by
  refine returnsInHanded_of_change (C := Try.checked) own started (by kernel_rfl) Try.func3
    (ChangeSpec.witness6 (enc := enc) (C := Try.checked) false ⟨#[], #[.slice none 0 0], []⟩ 8 (by kernel_rfl) (by kernel_rfl) (by kernel_rfl) (by kernel_rfl)) ?_
  intro W base args ds gs before hval0 hW hcnd _
  have hval : ∀ (j : Nat) t v, Try.f3.params[j]? = some t → args[j]? = some v → Value.okWide Try.prog W .any base t v := hval0
  have hW' := hW
  obtain ⟨p, q, hA0, hV, rfl, hfz, hnd⟩ := hW
  have hA : DataW.TrodAll enc Try.prog W 0 (fun _ => true) true Try.f3.params.toList args.toList ds p := hA0
  rw [Try.params3] at hA hval
  obtain ⟨v0, vs0, d0, ds0, p0, q0, hargs, rfl, rfl, h0, r0⟩ := trodAll_cons hA
  obtain ⟨rfl, rfl, rfl⟩ := trodAll_nil r0
  obtain rfl : args = #[v0] := by cases args; simp_all
  obtain ⟨rfl, rfl⟩ := trodVars_none hV
  have k0 := h0
  have lt0 : ∀ x ∈ p0, x.block < W.heap.size := by obtain ⟨m, hm⟩ := k0; exact DataW.trod_lt m _ _ _ hm
  obtain ⟨a0, len0, cap0, e0⟩ := okWide_slice Try.underlying22 (hval 0 22 v0 rfl rfl)
  subst e0
  have w0 : InCode W a0 len0 cap0 := by
    obtain ⟨fuel, hf⟩ := h0
    rcases open_ints Try.underlying22 Try.underlying5 (by kernel_rfl) hf with ⟨hcs, _⟩ | ⟨x, l, c, zs, hcs, _, hl, hm, hz, _, hcell, hwz⟩
    · simp [Value.cells] at hcs
      obtain ⟨rfl, rfl, rfl⟩ := hcs
      exact inCode_nil W
    · simp [Value.cells] at hcs
      obtain ⟨rfl, rfl, rfl⟩ := hcs
      exact inCode_of hl hm (by simpa using hz) hcell hwz
  clear hA0 hval0
  refine (walk a0 len0 cap0 W w0).mono fun e W' ⟨he, bel⟩ => ?_
  subst he
  exact ⟨_, rfl, _, _, _, [], _, [], hW', trodAll_mk1 (shut_bool Try.underlying4 _), (trodAll_cons_mk (Below.trod laidOut (by kernel_rfl) (of_decide_eq_true (by kernel_rfl)) k0 bel lt0) trodAll_mk0), rfl, bel.frame _, fun h => by cases h⟩

theorem over : Rows.fnTokSameRow.holds Try.pinned (OpenSpec.ofChange Rows.fnTokSameSpec) :=
  OpenClaim.holds_of_wide 3 Try.f3 rfl rfl rfl rfl rfl rfl rfl ⟨rfl, rfl, rfl, rfl, rfl⟩ rfl rfl rfl rfl rfl (by kernel_rfl) Try.func3 (by kernel_rfl)
    (of_decide_eq_true (by kernel_rfl)) (by unfold Func.isWrapper; first | (rw [if_pos (by decide +kernel)]; kernel_rfl) | (rw [if_neg (by decide +kernel)]; exact ⟨rfl, rfl⟩))
    (fun os started H enc _ => lifted os started H enc)
end Go.Proofs.Ytfepifcpcfoaaaa.fnTokSame
namespace Go.Proofs.Ytfepifcpcfoaaaa

/-- The given statement. -/
theorem fnTokSame_proved : Rows.FnTokSameSaid := fnTokSame.over
#print axioms fnTokSame_proved
end Go.Proofs.Ytfepifcpcfoaaaa
