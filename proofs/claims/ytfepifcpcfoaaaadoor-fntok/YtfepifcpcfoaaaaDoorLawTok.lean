/-
  'laws.FnTok' returns true at every code: each word of a drawn line stands where it begins, is of its kind, and there is nothing between two but spaces; two that touch are of two kinds, or marks.
  Conditions: the library's variables hold what their initialisers lay (tied to the program's text); every slice of bytes.
-/
import Derived.Test.YtfepifcpcfoaaaaDoorTokTouch
import Derived.Test.YtfepifcpcfoaaaaDoorImplLine
import Derived.Test.YtfepifcpcfoaaaaDoorLaid
import Derived.Test.YtfepifcpcfoaaaaDoorCards
import Derived.Test.YtfepifcpcfoaaaaDoorTie
import Derived.Deep.LoopGhost
import Derived.Test.YtfepifcpcfoaaaaDoorRows
import Derived.WalkKit
import Derived.ProofKit
import Derived.OpenShut
import Derived.ShutString
import Derived.ChangeOld
import Derived.Below
import Derived.Lib.SmallJoins
import Derived.SliceStrings
namespace Go.Proofs.YtfepifcpcfoaaaaDoor.fnTok
open Go.ChangeShapes Go.WideShapes Go.ChangeAt Go.RowKit Go.Joins
open Go.ChangeMaps (open_string shut_string)


theorem reads_len {w : World} {s : ByteArray} {e : Ending} {w' : World} (h : ReadsT w s e w') : ∃ v, e = .returned (.tuple #[v, .bool (toksR s).isSome]) ∧ w'.ownsRow w.heap.size 31 3 v (((toksR s).getD []).map tkV).length (rowT (((toksR s).getD []).map tkV)) ∧ Below w.heap.size w w' := by
  obtain ⟨v, h1, h2, h3⟩ := h
  exact ⟨v, h1, by rw [List.length_map]; exact h2, h3⟩
theorem below_drewN {B : Nat} {w W : World} (h : Below B w W) (n : Nat) : Below B w (W.drewN n) := ⟨h.os, h.tape, h.output, h.size, h.block⟩

set_option maxRecDepth 100000 in
set_option maxHeartbeats 8000000 in
theorem walk (A : Option Addr) (len cap : Nat) (w : World) (h : InCode w A len cap) (hw : LaidW w) :
    Calls Tryd.prog 3 #[.slice A len cap] w fun e w' => e = .returned (.bool true) ∧ Below w.heap.size w w' := by
  have hlc : len ≤ 9223372036854775807 := by have h1 := h.1; have h2 := h.2.1; unfold maxLen at h2; omega
  have HI := Lib.hid h
  have HW := Lib.hid hw
  clear h hw
  by_cases hl : 1048576 < len
  · have q0 : decide ((1048576 : Int) < (len : Int)) = true := by simp; omega
    go_enter Tryd.func3, Tryd.ntmps3
    go_wp2_with fail
    go_ret
    exact ⟨rfl, Below.refl _ _⟩
  · have q0 : decide ((1048576 : Int) < (len : Int)) = false := by simp; omega
    have HD1 := Lib.hid (drawTokLine_any A len cap w HI.out)
    clear hl
    go_enter Tryd.func3, Tryd.ntmps3
    go_wp2_with fail
    refine HD1.out.mono ?_
    rintro e w1 ⟨s, hs, rfl, hb1⟩
    clear HD1
    have HIl := Lib.hid (fun W hW => (tokLine_any s W (by omega) hW).mono (fun _ _ h => reads_len h))
    have HSp := Lib.hid (fun W => (specTokLine_any s W (by omega)).mono (fun _ _ h => reads_len h))
    have hxl := toksR_length s
    rw [← List.length_map (f := tkV)] at hxl
    generalize htr : toksR s = tr at *
    have HTR := Lib.hid htr
    clear htr
    have HXT := Lib.hid (show (tr.getD []).map tkV = (tr.getD []).map tkV from rfl)
    generalize hxs : (tr.getD []).map tkV = xs at HIl HSp hxl
    have HXS := Lib.hid hxs
    clear hxs HXT
    generalize hok : tr.isSome = ok at *
    have HOK := Lib.hid hok
    clear hok
    have q1 : (ok != ok) = false := by simp
    go_wp2_with fail
    refine (HIl.out _ (HW.out.below hb1)).mono ?_
    rintro e w2 ⟨v, rfl, hv, hb2'⟩
    have hb2 := hb1.trans (hb2'.mono hb1.size)
    obtain ⟨X, cx, rfl, _⟩ := own_sliceK hv
    have HX := Lib.hid (SlIs.ownK hv)
    clear hv HIl
    go_wp2_with fail
    refine (HSp.out _).mono ?_
    rintro e w3 ⟨v, rfl, hv, hb3'⟩
    have hb3 := hb2.trans (hb3'.mono hb2.size)
    obtain ⟨V, cv, rfl, _⟩ := own_sliceK hv
    have HV := Lib.hid (SlIs.ownK hv)
    clear hv HSp
    have HDS := Lib.hid (drawTokSame_any A len cap w3 (HI.out.below hb3))
    clear HI
    go_wp2_with fail
    refine HDS.out.mono ?_
    rintro e w4 ⟨Y, Z, cy, cz, ys, zs, rfl, hyl, hzl, _, hY, hZ, hb4'⟩
    have hb4 := hb3.trans (hb4'.mono hb3.size)
    have hb24 := hb3'.trans (hb4'.mono hb3'.size)
    have HX4 := Lib.hid (HX.out.below hb24)
    have HTS := Lib.hid (tokSame_any X V cx cv xs xs w4 (by omega) HX4.out (HV.out.below hb4'))
    rw [show sameT xs xs = true by simp [sameT]] at HTS
    have HT1 := Lib.hid (fun n => tokSame_any Y Z cy cz ys zs (w4.drewN n) (by omega) (hY.below (below_draws n)) (hZ.below (below_draws n)))
    have HT2 := Lib.hid (fun n => specTokSame_any Y Z cy cz ys zs (w4.drewN n) (by omega) (hY.below (below_draws n)) (hZ.below (below_draws n)))
    generalize sameT ys zs = sm at *
    have q2 : (sm != sm) = false := by simp
    clear hY hZ HDS HX HV
    go_wp2_with fail
    refine HTS.out.mono ?_
    rintro e w5 ⟨rfl, n5, hw5⟩
    subst hw5
    go_wp2_with fail
    refine (HT1.out n5).mono ?_
    rintro e w6 ⟨rfl, n6, hw6⟩
    rw [World.drewN_drewN] at hw6
    subst hw6
    go_wp2_with fail
    refine (HT2.out (n5 + n6)).mono ?_
    rintro e w7 ⟨rfl, n7, hw7⟩
    rw [World.drewN_drewN] at hw7
    have hb7' : Below w4.heap.size w4 w7 := by rw [hw7]; exact below_draws _
    have hb7 := hb4.trans (hb7'.mono hb4.size)
    have HX7 := Lib.hid (HX4.out.below hb7')
    clear hw7 HTS HT1 HT2 HX4
    cases tr with
    | none =>
      obtain rfl : ok = false := HOK.out.symm
      obtain rfl : xs = [] := HXS.out.symm
      go_wp2_with fail
      go_ret
      exact ⟨rfl, hb7⟩
    | some ts =>
      obtain rfl : ok = true := HOK.out.symm
      have hs120 : s.size ≤ 120 := by
        rcases Nat.lt_or_ge 120 s.size with hlt | hge
        · have := HTR.out; rw [toksR_big (by omega)] at this; cases this
        · exact hge
      have HAT := Lib.hid (AtW.zero (show toks 0 (L s) = some ts by have := HTR.out; rwa [toksR_ok hs120] at this))
      have HTL := Lib.hid (show ts.length = xs.length by have := congrArg List.length HXS.out; rw [List.length_map] at this; exact this)
      have HXG := Lib.hid (show ∀ i (hi : i < ts.length) (hx : i < xs.length), xs[i] = tkV ts[i] by
        intro i hi hx
        have := HXS.out
        subst this
        rw [List.getElem_map]
        rfl)
      clear HXS HOK HTR q1 q2
      go_wp2_with fail
      go_loopg [10, 11] xs.length (fun gk at' i wr => ∃ k a : Nat, at' = .int .i64 (a : Int) ∧ i = .int .i64 (k : Int) ∧ k + gk = xs.length ∧ a ≤ s.size ∧ Hid (AtW s ts k a) ∧ Below w7.heap.size w7 wr)
      case atStart => exact ⟨0, 0, rfl, rfl, by omega, Nat.zero_le _, HAT.out, Below.refl _ _⟩
      case round =>
        clear HAT
        obtain ⟨k, a, rfl, rfl, hkg, has, HA, hB⟩ := hrel
        by_cases hlt : k < xs.length
        · have q3 : (k : Int) < (xs.length : Int) := by omega
          have hkt : k < ts.length := by rw [HTL.out]; exact hlt
          obtain ⟨m, wd, he, hend, hsp, hcut, hkd, hnext, htouch⟩ := HA.out.step hkt
          obtain ⟨g, off, rfl, hg, c0, c1, c2⟩ := (HX7.out.below hB).tok hlt
          rw [HXG.out k hkt hlt, he] at c0 c1 c2
          simp only [tkV] at c0 c1 c2
          have hws : (ByteArray.mk wd.toArray).size = wd.length := by simp [ByteArray.size]
          have hlw : L (ByteArray.mk wd.toArray) = wd := by simp [L]
          have HTK := Lib.hid (fun W hW => tokKind_any (ByteArray.mk wd.toArray) W (by omega) hW)
          rw [hlw] at HTK
          have hcb : s.extract (a + m) (a + m + wd.length) = ByteArray.mk wd.toArray := by rw [cut_bytes, hcut]
          rw [← hws] at hcb hend hnext
          have HSPC := Lib.hid hsp
          have HNEXT := Lib.hid hnext
          have HTOUCH := Lib.hid htouch
          have HPREV := Lib.hid HA.out.prev
          generalize ByteArray.mk wd.toArray = ws at *
          generalize kindL wd = KD at *
          clear hlw hws hcut he hsp hnext htouch HA
          generalize wr = W0 at *
          generalize gk = G at *
          have HCB := Lib.hid hcb
          clear hcb
          go_wp2_with fail
          go_loopg [10] m (fun gj at' wr2 => ∃ j : Nat, at' = .int .i64 ((a + j : Nat) : Int) ∧ j + gj = m ∧ wr2 = W0)
          case atStart => exact ⟨0, rfl, by omega, rfl⟩
          case round =>
            obtain ⟨j, rfl, hjm, rfl⟩ := hrel
            by_cases hj : j < m
            · obtain ⟨haj, h32⟩ := HSPC.out j hj
              have q4 : ((a + j : Nat) : Int) < ((a + m : Nat) : Int) := by omega
              have q5 : ((s[a + j].toNat : Int) != 32) = false := by rw [h32]; rfl
              have q6 : ((a + j : Nat) : Int) < (s.size : Int) := by omega
              clear h32
              generalize hcc : a + m = C at *
              generalize hbb : a + j = b at *
              have HBB := Lib.hid hbb
              clear hbb hcc
              go_wp2_with fail
              go_roundg (gk - 1)
              case measure => omega
              case rel => exact ⟨j + 1, by have := HBB.out; rw [← Nat.add_assoc, this]; go_num, by omega, rfl⟩
            · obtain rfl : j = m := by omega
              have HTO := Lib.hid (show ∀ (hk1 : k - 1 < ts.length), 0 < k → ts[k - 1].col + ts[k - 1].s.length = a + j → ts[k - 1].kind = KD → KD = 3 from fun hk1 h0 h1 h2 => HTOUCH.out hk1 h0 (by have := (HPREV.out hk1 h0).1; omega) h2)
              generalize a + j = C at *
              have q4 : decide ((C : Int) < (C : Int)) = false := by simp
              have q5 : ((C : Int) != (C : Int)) = false := by simp
              have hw1 : IntKind.i64.wrap ((C : Int) + (ws.size : Int)) = (C : Int) + (ws.size : Int) := IntWalk.i64_in _ (by omega)
              have q6 : decide ((s.size : Int) < (C : Int) + (ws.size : Int)) = false := by simp; omega
              have i1 : (C : Int) ≤ (C : Int) + (ws.size : Int) := by omega
              have i2 : (C : Int) + (ws.size : Int) ≤ (s.size : Int) := by omega
              have i3 : ((C : Int) + (ws.size : Int)).toNat = C + ws.size := by omega
              have i4 : (0 : Int) ≤ (C : Int) + (ws.size : Int) := by omega
              have hcb := HCB.out
              have q7 : (!ws.toList == ws.toList) = false := by simp
              have q8 : ((KD : Int) != (KD : Int)) = false := by simp
              have HLW := Lib.hid (fun W (hb : Below wr.heap.size wr W) => HW.out.below (hb7.trans ((hB.trans (hb.mono hB.size)).mono hb7.size)))
              clear HTOUCH HSPC
              go_wp2_with fail
              go_region_held3 (fun w' => w'.cell? ⟨g, off + k * 3, none⟩ = some (.int .i64 (KD : Int)) ∧ w'.cell? ⟨g, off + k * 3 + 1, none⟩ = some (.string ws) ∧ w'.cell? ⟨g, off + k * 3 + 2, none⟩ = some (.int .i64 (C : Int)) ∧ Below wr.heap.size wr w')
                (first | exact ⟨c0, c1, c2, (Below.refl _ wr).drew⟩ | exact ⟨(hb2.cell (p := ⟨g, off + k * 3, none⟩) hg).trans c0, (hb2.cell (p := ⟨g, off + k * 3 + 1, none⟩) hg).trans c1, (hb2.cell (p := ⟨g, off + k * 3 + 2, none⟩) hg).trans c2, hb2⟩)
                (first | (go_at_call 17; refine (HTK.out _ (HLW.out _ (Below.refl _ wr).drew)).mono ?_; rintro e w2 ⟨rfl, hb2'⟩; have hb2 : Below wr.heap.size wr w2 := (Below.refl _ wr).drew.trans hb2'))
              rename_i hh
              have d0 := hh.1
              have d1 := hh.2.1
              have d2 := hh.2.2.1
              have hg2 : g < w2.heap.size := Nat.lt_of_lt_of_le hg hb2.size
              have HXW := Lib.hid ((HX7.out.below hB).below hb2)
              have hB2 : Below w7.heap.size w7 w2 := hB.trans (hb2.mono hB.size)
              clear hh c0 c1 c2 HTK HLW hw1 i1 i2 i3 i4 hcb q6
              by_cases hk0 : k = 0
              · have q9 : decide ((0 : Int) < (k : Int)) = false := by rw [decide_eq_false_iff_not]; omega
                clear HXW HTO HPREV
                go_wp2_with fail
                go_quiet (fail)
                go_wp2_with fail
                go_roundg (G - 1)
                case measure => omega
                case rel => exact ⟨k + 1, C + ws.size, by go_num, by go_num, by omega, by omega, HNEXT, below_drewN (hB.trans (hb2.mono hB.size)) nq⟩
              · have q9 : decide ((0 : Int) < (k : Int)) = true := by rw [decide_eq_true_eq]; omega
                have q9' : 0 < k := by omega
                have hk1 : k - 1 < xs.length := by omega
                have hk1t : k - 1 < ts.length := by omega
                obtain ⟨g', off', e', hg', p0, p1, p2⟩ := HXW.out.tok hk1
                injection e' with e'
                injection e' with e1 e2
                subst e1 e2
                rw [HXG.out (k - 1) hk1t hk1] at p0 p1 p2
                simp only [tkV] at p0 p1 p2
                have HT2 := Lib.hid (fun h1 h2 => HTO.out hk1t (by omega) h1 h2)
                have hpc := (HPREV.out hk1t (by omega)).1
                generalize ts[k - 1] = pt at *
                obtain ⟨pk, ps, pc⟩ := pt
                simp only at p0 p1 p2 hpc HT2
                have hps : (ByteArray.mk ps.toArray).size = ps.length := by simp [ByteArray.size]
                have hpb : pc + ps.length ≤ 120 := by omega
                rw [← hps] at HT2 hpb
                generalize ByteArray.mk ps.toArray = pb at *
                have i5 : (k : Int) - 1 = ((k - 1 : Nat) : Int) := by omega
                have i6 : ((k - 1 : Nat) : Int) < (xs.length : Int) := by omega
                have HK1 := Lib.hid i5
                have i7 : IntKind.i64.wrap ((k : Int) - 1) = ((k - 1 : Nat) : Int) := by rw [i5]; exact IntWalk.i64_in _ (by omega)
                generalize k - 1 = k1 at *
                clear HXW HTO HPREV hps hpc hk1t
                by_cases hto : pc + pb.size = C
                · have q10 : ((pc : Int) + (pb.size : Int) == (C : Int)) = true := by rw [beq_iff_eq]; omega
                  by_cases hkk : pk = KD
                  · have q11 : ((KD : Int) == (pk : Int)) = true := by rw [beq_iff_eq]; omega
                    have h3 : KD = 3 := HT2.out hto hkk
                    have q12 : ((KD : Int) != 3) = false := by rw [bne_eq_false_iff_eq]; omega
                    clear hkk HT2 h3
                    go_wp2_with fail
                    go_quiet (fail)
                    go_wp2_with fail
                    go_roundg (G - 1)
                    case measure => omega
                    case rel => exact ⟨k + 1, C + ws.size, by go_num, by go_num, by omega, by omega, HNEXT, below_drewN (hB.trans (hb2.mono hB.size)) nq⟩
                  · have q11 : ((KD : Int) == (pk : Int)) = false := by rw [beq_eq_false_iff_ne]; omega
                    clear HT2
                    go_wp2_with fail
                    go_quiet (fail)
                    go_wp2_with fail
                    go_roundg (G - 1)
                    case measure => omega
                    case rel => exact ⟨k + 1, C + ws.size, by go_num, by go_num, by omega, by omega, HNEXT, below_drewN (hB.trans (hb2.mono hB.size)) nq⟩
                · have q10 : ((pc : Int) + (pb.size : Int) == (C : Int)) = false := by rw [beq_eq_false_iff_ne]; omega
                  clear HT2
                  go_wp2_with fail
                  go_quiet (fail)
                  go_wp2_with fail
                  go_roundg (G - 1)
                  case measure => omega
                  case rel => exact ⟨k + 1, C + ws.size, by go_num, by go_num, by omega, by omega, HNEXT, below_drewN (hB.trans (hb2.mono hB.size)) nq⟩
        · have q3 : decide ((k : Int) < (xs.length : Int)) = false := by simp; omega
          have HDN := Lib.hid (HA.out.done (by have := HTL.out; omega))
          go_wp2_with fail
          go_loopg [10] (s.size - a) (fun gj at' wr2 => ∃ j : Nat, at' = .int .i64 (j : Int) ∧ a ≤ j ∧ j + gj = s.size ∧ wr2 = wr)
          case atStart => exact ⟨a, rfl, Nat.le_refl _, by omega, rfl⟩
          case round =>
            obtain ⟨j, rfl, haj, hjs, rfl⟩ := hrel
            by_cases hj : j < s.size
            · have q4 : (j : Int) < (s.size : Int) := by omega
              have q5 : ((s[j].toNat : Int) != 32) = false := by rw [HDN.out j haj hj]; rfl
              go_wp2_with fail
              go_roundg (gk - 1)
              case measure => omega
              case rel => exact ⟨j + 1, by go_num, by omega, by omega, rfl⟩
            · have q4 : decide ((j : Int) < (s.size : Int)) = false := by simp; omega
              go_wp2_with fail
              go_ret
              exact ⟨rfl, hb7.trans (hB.mono hb7.size)⟩


set_option linter.unusedVariables false in
set_option maxRecDepth 100000 in
theorem lifted (os : Os) (started : os.Started) (H : Type) (enc : TypeId × Value → H) :
    ReturnsInHanded {} Tryd.checked os 3 .any (fun w args => (Rows.fnTokSpec.pre enc Tryd.prog Tryd.f3 [] false w args ∧ laidMetH Tryd.prog laidL w) ∧ sizedMet enc Tryd.prog Tryd.f3 (OpenSpec.ofChange Rows.fnTokSpec) false w args)
      (Rows.fnTokSpec.post enc Tryd.prog Tryd.f3 false true false false) := by
  refine returnsInHanded_of_change_and (C := Tryd.checked) (X := fun w _ => laidMetH Tryd.prog laidL w) (fun _ _ _ hh h => h.of_heap hh) own started (by kernel_rfl) Tryd.func3
    (ChangeSpec.witness_shaped (enc := enc) (C := Tryd.checked) (os := os) (X := fun w _ => laidMetH Tryd.prog laidL w) false (World.doorLaid Tryd.prog 62 os) #[.slice none 0 0] 8 rfl (World.shaped_of_RefB (by kernel_rfl) (by kernel_rfl)) (by kernel_rfl) (by kernel_rfl) (by kernel_rfl) (door_met os _)) ?_
  intro W base args ds gs before hval0 hW _ _ hL _
  have hval : ∀ (j : Nat) t v, Tryd.f3.params[j]? = some t → args[j]? = some v → Value.okWide Tryd.prog W .any base t v := hval0
  have hW' := hW
  obtain ⟨p, q, hA0, hV, rfl, hfz, hnd⟩ := hW
  have hA : DataW.TrodAll enc Tryd.prog W 0 (fun _ => true) true Tryd.f3.params.toList args.toList ds p := hA0
  rw [Tryd.params3] at hA hval
  obtain ⟨v0, vs0, d0, ds0, p0, q0, hargs, rfl, rfl, h0, r0⟩ := trodAll_cons hA
  obtain ⟨rfl, rfl, rfl⟩ := trodAll_nil r0
  obtain rfl : args = #[v0] := by cases args; simp_all
  obtain ⟨rfl, rfl⟩ := trodVars_none hV
  have k0 := h0
  have lt0 : ∀ x ∈ p0, x.block < W.heap.size := by obtain ⟨m, hm⟩ := k0; exact DataW.trod_lt m _ _ _ hm
  obtain ⟨a0, len0, cap0, e0⟩ := okWide_slice Tryd.underlying22 (hval 0 22 v0 rfl rfl)
  subst e0
  have w0 : InCode W a0 len0 cap0 := by
    obtain ⟨fuel, hf⟩ := h0
    rcases open_ints Tryd.underlying22 Tryd.underlying5 (by kernel_rfl) hf with ⟨hcs, _⟩ | ⟨x, l, c, zs, hcs, _, hl, hm, hz, _, hcell, hwz⟩
    · simp [Value.cells] at hcs
      obtain ⟨rfl, rfl, rfl⟩ := hcs
      exact inCode_nil W
    · simp [Value.cells] at hcs
      obtain ⟨rfl, rfl, rfl⟩ := hcs
      exact inCode_of hl hm (by simpa using hz) hcell hwz
  clear hA0 hval0
  refine (walk a0 len0 cap0 W w0 (of_laid hL)).mono fun e W' ⟨he, bel⟩ => ?_
  subst he
  exact ⟨_, rfl, _, _, _, [], _, [], hW', trodAll_mk1 (shut_bool Tryd.underlying4 _), (trodAll_cons_mk (Below.trod laidOut (by kernel_rfl) (of_decide_eq_true (by kernel_rfl)) k0 bel lt0) trodAll_mk0), rfl, bel.frame _, fun h => by cases h⟩

theorem over : Rows.fnTokRow.holds Tryd.pinned (OpenSpec.ofChange Rows.fnTokSpec) :=
  OpenClaim.holds_of_wide 3 Tryd.f3 rfl rfl rfl rfl rfl rfl rfl ⟨rfl, rfl, rfl, rfl, rfl⟩ rfl rfl rfl rfl rfl (by kernel_rfl) Tryd.func3 (by kernel_rfl)
    (of_decide_eq_true (by kernel_rfl)) (by unfold Func.isWrapper; first | (rw [if_pos (by decide +kernel)]; kernel_rfl) | (rw [if_neg (by decide +kernel)]; exact ⟨rfl, rfl⟩))
    (fun os started H enc _ => lifted os started H enc)
end Go.Proofs.YtfepifcpcfoaaaaDoor.fnTok
namespace Go.Proofs.YtfepifcpcfoaaaaDoor

/-- The given statement. -/
theorem fnTok_proved : Rows.FnTokCardSaid :=
  Claim7.holds_tied_plain_at .later [] [.data, .data, .data, .sentinel, .sentinel] true (true, "29ed2e23a74b36dc8cab4763febb46758cd644b74055fc42faa0c447b9c48a81") true
    fnTok.over (fun _ h => by cases h) (by kernel_rfl) (fun _ h => by cases h) fnTok_row_tie rfl ⟨rfl, rfl⟩ (by kernel_rfl) rfl
    (fun f fn hf hfn => by
      obtain rfl : f = 3 := Option.some.inj ((show Tryd.prog.funcNamed "loop.example/interlinear/laws.FnTok" = some 3 by kernel_rfl).symm.trans hf) |>.symm
      obtain rfl : fn = Tryd.f3 := (Option.some.inj (Tryd.func3.symm.trans hfn)).symm
      exact ⟨by kernel_rfl, fun j t ht => by
        rw [Tryd.params3] at ht
        have hm : t ∈ [22] := by simpa using Array.mem_of_getElem? ht
        have hall : ([22].all fun u => !Tryd.prog.wantsStandIn u) = true := by kernel_rfl
        exact (show Tryd.prog.wantsStandIn t = false by simpa using List.all_eq_true.1 hall t hm)⟩)
    (by kernel_rfl)
#print axioms fnTok_proved
end Go.Proofs.YtfepifcpcfoaaaaDoor
