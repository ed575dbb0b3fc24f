/-
  'laws.FnTokSpaces' returns true at every two codes: a drawn line with spaces ahead has the same words, as much further on; with spaces behind just the same; written anew with one space between it has the same words.
  Conditions: the library's variables hold what their initialisers lay (tied to the program's text); every two slices of bytes.
-/
import Derived.Test.YtfepifcpcfoaaaaDoorTokLaw
import Derived.Test.YtfepifcpcfoaaaaDoorImplLine
import Derived.Test.YtfepifcpcfoaaaaDoorLaid
import Derived.Test.YtfepifcpcfoaaaaDoorCards
import Derived.Test.YtfepifcpcfoaaaaDoorTie
import Derived.Test.YtfepifcpcfoaaaaDoorRows
import Derived.WalkKit
import Derived.ProofKit
import Derived.OpenShut
import Derived.ShutString
import Derived.ChangeOld
import Derived.Below
import Derived.Lib.SmallJoins
import Derived.SliceStrings
namespace Go.Proofs.YtfepifcpcfoaaaaDoor.fnTokSpaces
open Go.ChangeShapes Go.WideShapes Go.ChangeAt Go.RowKit Go.Joins
open Go.ChangeMaps (open_string shut_string)


theorem reads_len {w : World} {s : ByteArray} {e : Ending} {w' : World} (h : ReadsT w s e w') : ∃ v, e = .returned (.tuple #[v, .bool (toksR s).isSome]) ∧ w'.ownsRow w.heap.size 31 3 v (((toksR s).getD []).map tkV).length (rowT (((toksR s).getD []).map tkV)) ∧ Below w.heap.size w w' := by
  obtain ⟨v, h1, h2, h3⟩ := h
  exact ⟨v, h1, by rw [List.length_map]; exact h2, h3⟩
theorem below_drewN {B : Nat} {w W : World} (h : Below B w W) (n : Nat) : Below B w (W.drewN n) := ⟨h.os, h.tape, h.output, h.size, h.block⟩
def nine : ByteArray := ⟨#[32, 32, 32, 32, 32, 32, 32, 32, 32]⟩
theorem nine_cut (n : Nat) (h : n ≤ 9) : L (nine.extract 0 n) = List.replicate n 32 := by
  rw [L_extract, List.drop_zero]
  show (List.replicate 9 (32 : UInt8)).take n = _
  rw [List.take_replicate, Nat.min_eq_left h]
/-- What spaces change, and what the words written anew are cut into. -/
theorem spaces_all (s p : ByteArray) (n : Nat) (hn : n ≤ 8) (hp : L p = List.replicate n 32) : ∃ (xs : List Tv) (ok : Bool), ((toksR s).getD []).map tkV = xs ∧ (toksR s).isSome = ok ∧ xs.length ≤ 120 ∧
    (s.size ≤ 110 → ((toksR (p ++ s)).getD []).map tkV = xs.map (shiftV n) ∧ (toksR (p ++ s)).isSome = ok ∧ ((toksR (s ++ p)).getD []).map tkV = xs ∧ (toksR (s ++ p)).isSome = ok) ∧
    (∀ x ∈ xs, 0 ≤ x.2.2 ∧ x.2.2 ≤ 120 ∧ x.2.1.size ≤ 120 ∧ x.1 = (kindL (L x.2.1) : Int) ∧ kindL (L x.2.1) ≠ 0) := by
  refine ⟨_, _, rfl, rfl, by rw [List.length_map]; exact toksR_length s, ?_, ?_⟩
  · intro hs
    rw [toksR_pad p s n hp (by omega), toksR_behind p s n hp (by omega)]
    cases toksR s with
    | none => exact ⟨rfl, rfl, rfl, rfl⟩
    | some ts =>
      refine ⟨?_, rfl, rfl, rfl⟩
      simp only [Option.map_some, Option.getD_some, List.map_map]
      exact List.map_congr_left fun t _ => tkV_shift _ t
  · intro x hx
    obtain ⟨t, ht, rfl⟩ := List.mem_map.1 hx
    cases hb : toksR s with
    | none => rw [hb] at ht; simp at ht
    | some ts =>
      rw [hb] at ht
      have := toksR_cols hb t ht
      have hs : (ByteArray.mk t.s.toArray).size = t.s.length := by simp [ByteArray.size]
      have hl : L (ByteArray.mk t.s.toArray) = t.s := by simp [L]
      simp only [tkV]
      rw [hs, hl]
      exact ⟨by omega, by omega, by omega, by rw [this.2.1], this.2.2.1⟩
/-- The words, written with one space between. -/
theorem join_all (zs : List ByteArray) (hz : ∀ z ∈ zs, kindL (L z) ≠ 0) : ∃ (cs : List Tv) (three : Bool), ((toksR (joinK zs zs.length)).getD []).map tkV = cs ∧ (toksR (joinK zs zs.length)).isSome = three ∧ cs.length ≤ 120 ∧
    ((joinK zs zs.length).size ≤ 120 → three = true ∧ cs.length = zs.length ∧ ∀ i (hi : i < zs.length) (hc : i < cs.length), cs[i].1 = (kindL (L zs[i]) : Int) ∧ cs[i].2.1 = zs[i]) := by
  refine ⟨_, _, rfl, rfl, by rw [List.length_map]; exact toksR_length _, ?_⟩
  intro hs
  rw [toksR_join zs hz hs]
  refine ⟨rfl, by simp only [Option.getD_some, List.length_map]; exact joinToks_length zs _, ?_⟩
  intro i hi hc
  simp only [Option.getD_some, List.getElem_map]
  rw [joinToks_get zs zs.length i hi (Nat.le_refl _)]
  exact ⟨rfl, rfl⟩

set_option maxRecDepth 100000 in
set_option maxHeartbeats 8000000 in
theorem walk (A : Option Addr) (len cap : Nat) (B : Option Addr) (len' cap' : Nat) (w : World) (h : InCode w A len cap) (h' : InCode w B len' cap') (hw : LaidW w) :
    Calls Tryd.prog 7 #[.slice A len cap, .slice B len' cap'] w fun e w' => e = .returned (.bool true) ∧ Below w.heap.size w w' := by
  have hlc : len ≤ 9223372036854775807 := by have h1 := h.1; have h2 := h.2.1; unfold maxLen at h2; omega
  have hlc' : len' ≤ 9223372036854775807 := by have h1 := h'.1; have h2 := h'.2.1; unfold maxLen at h2; omega
  have HI := Lib.hid h
  have HW := Lib.hid hw
  clear h h' hw
  by_cases hl : 1048576 < len
  · have q0 : decide ((1048576 : Int) < (len : Int)) = true := by simp; omega
    go_enter Tryd.func7, Tryd.ntmps7
    go_wp2_with fail
    go_ret
    exact ⟨rfl, Below.refl _ _⟩
  · have q0 : decide ((1048576 : Int) < (len : Int)) = false := by simp; omega
    by_cases hl' : 1048576 < len'
    · have q0' : decide ((1048576 : Int) < (len' : Int)) = true := by simp; omega
      go_enter Tryd.func7, Tryd.ntmps7
      go_wp2_with fail
      go_ret
      exact ⟨rfl, Below.refl _ _⟩
    · have q0' : decide ((1048576 : Int) < (len' : Int)) = false := by simp; omega
      have HD1 := Lib.hid (drawTokLine_any A len cap w HI.out)
      clear hl hl'
      obtain ⟨i0, hi, hz0, hz1, hz2⟩ := info_parts infoStr
      go_enter Tryd.func7, Tryd.ntmps7
      go_wp2_with fail
      refine HD1.out.mono ?_
      rintro e w1 ⟨s, hs, rfl, hb1⟩
      clear HD1 HI
      have HIm := Lib.hid (fun s' (h : s'.size ≤ 300) W hW => (tokLine_any s' W (by omega) hW).mono (fun _ _ h => reads_len h))
      have HSp := Lib.hid (fun W => (specTokLine_any s W (by omega)).mono (fun _ _ h => reads_len h))
      have hn : len' % 9 ≤ 8 := by omega
      have hpl := nine_cut (len' % 9) (by omega)
      have hps : (nine.extract 0 (len' % 9)).size = len' % 9 := by rw [← L_length, hpl, List.length_replicate]
      obtain ⟨xs, ok, ex, eo, hxl, hpad, hall⟩ := spaces_all s (nine.extract 0 (len' % 9)) (len' % 9) hn hpl
      have HIl := Lib.hid (HIm.out s (by omega))
      rw [ex, eo] at HIl HSp
      have HPAD := Lib.hid hpad
      have HALL := Lib.hid hall
      clear ex eo hpad hall hpl
      have q1 : (ok != ok) = false := by simp
      have q1' : (ok == ok) = true := by simp
      go_wp2_with fail
      refine (HIl.out _ (HW.out.below hb1)).mono ?_
      rintro e w2 ⟨v, rfl, hv, hb2'⟩
      have hb2 := hb1.trans (hb2'.mono hb1.size)
      obtain ⟨X, cx, rfl, _⟩ := own_sliceK hv
      have HX := Lib.hid (SlIs.ownK hv)
      clear hv HIl
      go_wp2_with fail
      refine (HSp.out _).mono ?_
      rintro e w3 ⟨v, rfl, hv, hb3'⟩
      have hb3 := hb2.trans (hb3'.mono hb2.size)
      obtain ⟨V, cv, rfl, _⟩ := own_sliceK hv
      have HV := Lib.hid (SlIs.ownK hv)
      clear hv HSp
      have HTS := Lib.hid (fun n => tokSame_any X V cx cv xs xs (w3.drewN n) (by omega) ((HX.out.below hb3').below (below_draws n)) (HV.out.below (below_draws n)))
      rw [show sameT xs xs = true by simp [sameT]] at HTS
      by_cases h110 : s.size ≤ 110
      · have q2 : decide ((110 : Int) < (s.size : Int)) = false := by simp; omega
        obtain ⟨e1, e2, e3, e4⟩ := HPAD.out h110
        have hm1 : (len' : Int) % 9 = ((len' % 9 : Nat) : Int) := by omega
        generalize len' % 9 = n at *
        have HIa := Lib.hid (HIm.out (nine.extract 0 n ++ s) (by rw [ByteArray.size_append, hps]; omega))
        have HIb := Lib.hid (HIm.out (s ++ nine.extract 0 n) (by rw [ByteArray.size_append, hps]; omega))
        rw [e1, e2, List.length_map] at HIa
        rw [e3, e4] at HIb
        clear e1 e2 e3 e4 HPAD
        have i1 : (0 : Int) ≤ (n : Int) := by omega
        have i2 : (n : Int) ≤ 9 := by omega
        have HPS := Lib.hid hps
        go_wp2_with fail
        refine (HTS.out 0).mono ?_
        rintro e w4 ⟨rfl, n4, hw4⟩
        have hb4' : Below w3.heap.size w3 w4 := by rw [hw4]; exact below_draws _
        have hb4 := hb3.trans (hb4'.mono hb3.size)
        clear hw4 HTS
        simp only [nine] at HIa HIb HPS
        go_wp2_with fail
        generalize (ByteArray.mk #[32, 32, 32, 32, 32, 32, 32, 32, 32]).extract 0 n = pd at *
        have hpd8 : pd.size ≤ 8 := by have := HPS.out; omega
        refine (HIa.out _ (HW.out.below hb4)).mono ?_
        rintro e w5 ⟨v, rfl, hv, hb5'⟩
        have hb5 := hb4.trans (hb5'.mono hb4.size)
        obtain ⟨P, cp, rfl, _⟩ := own_sliceK hv
        have HP := Lib.hid (SlIs.ownK hv)
        clear hv HIa
        go_wp2_with fail
        refine (HIb.out _ (HW.out.below hb5)).mono ?_
        rintro e w6 ⟨v, rfl, hv, hb6'⟩
        have hb6 := hb5.trans (hb6'.mono hb5.size)
        obtain ⟨Q, cq, rfl, _⟩ := own_sliceK hv
        have HQ := Lib.hid (SlIs.ownK hv)
        clear hv HIb
        have hb36 := (hb4'.trans (hb5'.mono hb4'.size)).trans (hb6'.mono (Nat.le_trans hb4'.size hb5'.size))
        have HX6 := Lib.hid ((HX.out.below hb3').below hb36)
        have HTQ := Lib.hid (tokSame_any Q X cq cx xs xs w6 (by omega) HQ.out HX6.out)
        rw [show sameT xs xs = true by simp [sameT]] at HTQ
        have q3 : ((xs.length : Int) != (xs.length : Int)) = false := by simp
        go_wp2_with fail
        refine HTQ.out.mono ?_
        rintro e w7 ⟨rfl, n7, hw7⟩
        have hb7' : Below w6.heap.size w6 w7 := by rw [hw7]; exact below_draws _
        have hb7 := hb6.trans (hb7'.mono hb6.size)
        clear hw7 HTQ HQ HX HV
        have HX7 := Lib.hid (HX6.out.below hb7')
        have HP7 := Lib.hid ((HP.out.below hb6').below hb7')
        clear HX6 HP
        have hps' := HPS.out
        clear hps
        go_wp2_with fail
        go_loopw [15, 16] (fun v i wr => ∃ k : Nat, i = .int .i64 (k : Int) ∧ k ≤ xs.length ∧ wr.ownsRow w7.heap.size 9 1 v k ((xs.take k).map (fun x => strV x.2.1)) ∧ Below w7.heap.size w7 wr) (fun _ i _ => xs.length - (intOf i).toNat)
        case atStart => exact ⟨0, rfl, Nat.zero_le _, ownsRow_empty w7 _, (Below.refl _ w7).alloc (Nat.le_refl _) _⟩
        case round =>
          obtain ⟨k, rfl, hk, hown, hB⟩ := hrel
          by_cases hlt : k < xs.length
          · have q4 : (k : Int) < (xs.length : Int) := by omega
            obtain ⟨g, off, rfl, hg, c0, c1, c2⟩ := (HX7.out.below hB).tok hlt
            obtain ⟨g', off', rfl, hg', d0, d1, d2⟩ := (HP7.out.below hB).tok (k := k) (by rw [List.length_map]; exact hlt)
            rw [List.getElem_map] at d0 d1 d2
            have hax := HALL.out _ (List.getElem_mem hlt)
            have HTK := Lib.hid (show (xs.take (k + 1)).map (fun x => strV x.2.1) = (xs.take k).map (fun x => strV x.2.1) ++ [.string xs[k].2.1] by
              rw [List.take_succ_eq_append_getElem hlt, List.map_append]; rfl)
            generalize xs[k] = t at *
            obtain ⟨ta, ts, tc⟩ := t
            unfold shiftV at d0 d1 d2
            simp only at c0 c1 c2 d0 d1 d2 hax
            have ha0 := hax.1
            have ha1 := hax.2.1
            clear hax
            have q5 : (tc + (n : Int) != tc + (n : Int)) = false := by simp
            have q6 : (!ts.toList == ts.toList) = false := by simp
            have HOW := Lib.hid hown
            clear hown
            go_wp2_with fail
            go_quiet (fail)
            have hownq := own_below HOW.out (below_draws (w := wr) nq)
            have hBq := below_drewN hB nq
            have c1q : (wr.drewN nq).cell? ⟨g, off + k * 3 + 1, none⟩ = some (.string ts) := c1
            have hwz := hB.size
            have hwz2 : w7.heap.size ≤ (wr.drewN nq).heap.size := hwz
            generalize wr.drewN nq = W at *
            go_wp2_with (at_builtin; refine wpList_append_own _ rfl _ _ 34 rfl w7.heap.size 9 i0 (.string ByteArray.empty) 1 16 Tryd.underlying34 hi hz0 hz1 hz2 rfl (by decide) _ _ _ rfl (hownq.alloc _) ⟨W.heap.size, 0, none⟩ 1 1 [.string ts] rfl rfl (cell_one_new _ _ _) (by simp [Value.oneCell']) (by unfold maxLen; omega) (by omega) (by simp; omega) ?_; intro v' W4 hown' hgrow _)
            go_roundw
            case rel => exact ⟨k + 1, by go_num, by omega, by rw [HTK.out]; exact hown', below_append hBq hBq.size hownq hgrow⟩
            case measure => simp [intOf]; omega
          · have q4 : decide ((k : Int) < (xs.length : Int)) = false := by simp; omega
            obtain rfl : xs.length = k := by omega
            rw [List.take_length] at hown
            have hzs : wr.ownsRow w7.heap.size 9 1 u15 (xs.map (·.2.1)).length ((xs.map (·.2.1)).map strV) := by rw [List.length_map, List.map_map]; exact hown
            have hzk : ∀ z ∈ xs.map (·.2.1), kindL (L z) ≠ 0 := by
              intro z hz
              obtain ⟨x, hx, rfl⟩ := List.mem_map.1 hz
              exact (HALL.out x hx).2.2.2.2
            have hzt := tot_le (xs.map (·.2.1)) 120 (fun z hz => by
              obtain ⟨x, hx, rfl⟩ := List.mem_map.1 hz
              exact (HALL.out x hx).2.2.1)
            have hzl : (xs.map (·.2.1)).length = xs.length := List.length_map _
            have HXG := Lib.hid (show ∀ i (hi : i < (xs.map (·.2.1)).length) (hx : i < xs.length), (xs.map (·.2.1))[i] = xs[i].2.1 ∧ xs[i].1 = (kindL (L (xs.map (·.2.1))[i]) : Int) from fun i hi hx => by
              rw [List.getElem_map]
              exact ⟨rfl, (HALL.out _ (List.getElem_mem hx)).2.2.2.1⟩)
            generalize xs.map (·.2.1) = zs at *
            have hzt2 : tot zs ≤ 14520 := Nat.le_trans hzt (Nat.le_trans (Nat.mul_le_mul_right 121 (by omega : zs.length ≤ 120)) (by omega))
            obtain ⟨Wd, cw, rfl, hcw⟩ := own_slice hzs
            have HZ := Lib.hid (SlIs.own hzs)
            have HTT := Lib.hid (fun W hb => tokText_any Wd cw zs W (by omega) hcw (HZ.out.below hb))
            have hjs : (joinK zs zs.length).size ≤ 14520 := by have := joinK_size zs zs.length (Nat.le_refl _); rw [List.take_length] at this; omega
            have HIj := Lib.hid (fun W hW => (tokLine_any (joinK zs zs.length) W (by omega) hW).mono (fun _ _ h => reads_len h))
            obtain ⟨cs, three, ec, et, hcl, hjoin⟩ := join_all zs hzk
            rw [ec, et] at HIj
            have HJ := Lib.hid hjoin
            clear ec et hjoin hzs hown hzk hzt
            generalize joinK zs zs.length = jn at *
            have hbr := hb7.trans (hB.mono hb7.size)
            have HZL := Lib.hid hzl
            clear hzl
            go_wp2_with fail
            refine (HTT.out wr (Below.refl _ _)).mono ?_
            rintro e w8 ⟨rfl, hb8'⟩
            have hb8 := hbr.trans (hb8'.mono hbr.size)
            go_wp2_with fail
            refine (HIj.out _ (HW.out.below hb8)).mono ?_
            rintro e w9 ⟨v, rfl, hv, hb9'⟩
            have hb9 := hb8.trans (hb9'.mono hb8.size)
            have hbr9 := hb8'.trans (hb9'.mono hb8'.size)
            obtain ⟨C, cc, rfl, _⟩ := own_sliceK hv
            have HCS := Lib.hid (SlIs.ownK hv)
            clear hv HIj
            go_wp2_with fail
            refine (HTT.out w9 hbr9).mono ?_
            rintro e w10 ⟨rfl, hb10'⟩
            have hb10 := hb9.trans (hb10'.mono hb9.size)
            clear HTT
            have HX10 := Lib.hid (HX7.out.below (hB.trans ((hbr9.trans (hb10'.mono hbr9.size)).mono hB.size)))
            have HC10 := Lib.hid (HCS.out.below hb10')
            clear HX7 HP7 HCS HZ
            by_cases h120 : jn.size ≤ 120
            · have q6 : decide ((120 : Int) < (jn.size : Int)) = false := by simp; omega
              obtain ⟨rfl, hcz, hcg⟩ := HJ.out h120
              have HCG := Lib.hid hcg
              have hcx : cs.length = xs.length := by rw [hcz]; exact HZL.out
              have HCX := Lib.hid hcx
              clear hcg HJ
              rw [hcx]
              clear hcx hcz
              go_wp2_with fail
              go_loopw [19] (fun i wr => ∃ k : Nat, i = .int .i64 (k : Int) ∧ k ≤ xs.length ∧ ∃ n, wr = w10.drewN n) (fun i _ => xs.length - (intOf i).toNat)
              case atStart => exact ⟨0, rfl, Nat.zero_le _, 0, rfl⟩
              case round =>
                obtain ⟨k, rfl, hk, nd, rfl⟩ := hrel
                by_cases hlt : k < xs.length
                · have q7 : (k : Int) < (xs.length : Int) := by omega
                  have hkc : k < cs.length := by rw [HCX.out]; exact hlt
                  have hkz : k < zs.length := by rw [HZL.out]; exact hlt
                  obtain ⟨g, off, rfl, hg, c0, c1, c2⟩ := HX10.out.tok hlt
                  obtain ⟨g', off', rfl, hg', d0, d1, d2⟩ := HC10.out.tok hkc
                  have hcc := HCG.out k hkz hkc
                  have hxx := HXG.out k hkz hlt
                  rw [hcc.1, ← hxx.2] at d0
                  rw [hcc.2, hxx.1] at d1
                  clear hcc hxx
                  generalize xs[k] = t at *
                  obtain ⟨ta, ts, tc⟩ := t
                  simp only at c0 c1 c2 d0 d1
                  have q8 : (ta != ta) = false := by simp
                  have q9 : (!ts.toList == ts.toList) = false := by simp
                  clear d2 c2
                  go_wp2_with fail
                  go_quiet (fail)
                  go_wp2_with fail
                  go_roundw
                  case rel => exact ⟨k + 1, by go_num, by omega, nd + nq, rfl⟩
                  case measure => simp [intOf]; omega
                · have q7 : decide ((k : Int) < (xs.length : Int)) = false := by simp; omega
                  have q8 : ((xs.length : Int) == (xs.length : Int)) = true := by simp
                  go_wp2_with fail
                  go_ret
                  exact ⟨rfl, below_drewN hb10 nd⟩
            · have q6 : decide ((120 : Int) < (jn.size : Int)) = true := by simp; omega
              go_wp2_with fail
              go_ret
              exact ⟨rfl, hb10⟩
      · have q2 : decide ((110 : Int) < (s.size : Int)) = true := by simp; omega
        clear HPAD
        go_wp2_with fail
        refine (HTS.out 0).mono ?_
        rintro e w4 ⟨rfl, n4, hw4⟩
        obtain rfl : w4 = w3.drewN n4 := hw4
        go_wp2_with fail
        refine (HTS.out n4).mono ?_
        rintro e w5 ⟨rfl, n5, hw5⟩
        have hb5 : Below w3.heap.size w3 w5 := by rw [hw5, World.drewN_drewN]; exact below_draws _
        clear hw5
        go_wp2_with fail
        go_ret
        exact ⟨rfl, hb3.trans (hb5.mono hb3.size)⟩


set_option linter.unusedVariables false in
set_option maxRecDepth 100000 in
theorem lifted (os : Os) (started : os.Started) (H : Type) (enc : TypeId × Value → H) :
    ReturnsInHanded {} Tryd.checked os 7 .any (fun w args => (Rows.fnTokSpacesSpec.pre enc Tryd.prog Tryd.f7 [] false w args ∧ laidMetH Tryd.prog laidL w) ∧ sizedMet enc Tryd.prog Tryd.f7 (OpenSpec.ofChange Rows.fnTokSpacesSpec) false w args)
      (Rows.fnTokSpacesSpec.post enc Tryd.prog Tryd.f7 false true false false) := by
  refine returnsInHanded_of_change_and (C := Tryd.checked) (X := fun w _ => laidMetH Tryd.prog laidL w) (fun _ _ _ hh h => h.of_heap hh) own started (by kernel_rfl) Tryd.func7
    (ChangeSpec.witness_shaped (enc := enc) (C := Tryd.checked) (os := os) (X := fun w _ => laidMetH Tryd.prog laidL w) false (World.doorLaid Tryd.prog 62 os) #[.slice none 0 0, .slice none 0 0] 8 rfl (World.shaped_of_RefB (by kernel_rfl) (by kernel_rfl)) (by kernel_rfl) (by kernel_rfl) (by kernel_rfl) (door_met os _)) ?_
  intro W base args ds gs before hval0 hW _ _ hL _
  have hval : ∀ (j : Nat) t v, Tryd.f7.params[j]? = some t → args[j]? = some v → Value.okWide Tryd.prog W .any base t v := hval0
  have hW' := hW
  obtain ⟨p, q, hA0, hV, rfl, hfz, hnd⟩ := hW
  have hA : DataW.TrodAll enc Tryd.prog W 0 (fun _ => true) true Tryd.f7.params.toList args.toList ds p := hA0
  rw [Tryd.params7] at hA hval
  obtain ⟨v0, vs0, d0, ds0, p0, q0, hargs, rfl, rfl, h0, r0⟩ := trodAll_cons hA
  obtain ⟨v1, vs1, d1, ds1, p1, q1, rfl, rfl, rfl, h1, r1⟩ := trodAll_cons r0
  obtain ⟨rfl, rfl, rfl⟩ := trodAll_nil r1
  obtain rfl : args = #[v0, v1] := by cases args; simp_all
  obtain ⟨rfl, rfl⟩ := trodVars_none hV
  have k0 := h0
  have lt0 : ∀ x ∈ p0, x.block < W.heap.size := by obtain ⟨m, hm⟩ := k0; exact DataW.trod_lt m _ _ _ hm
  have k1 := h1
  have lt1 : ∀ x ∈ p1, x.block < W.heap.size := by obtain ⟨m, hm⟩ := k1; exact DataW.trod_lt m _ _ _ hm
  obtain ⟨a0, len0, cap0, e0⟩ := okWide_slice Tryd.underlying22 (hval 0 22 v0 rfl rfl)
  subst e0
  have w0 : InCode W a0 len0 cap0 := by
    obtain ⟨fuel, hf⟩ := h0
    rcases open_ints Tryd.underlying22 Tryd.underlying5 (by kernel_rfl) hf with ⟨hcs, _⟩ | ⟨x, l, c, zs, hcs, _, hl, hm, hz, _, hcell, hwz⟩
    · simp [Value.cells] at hcs
      obtain ⟨rfl, rfl, rfl⟩ := hcs
      exact inCode_nil W
    · simp [Value.cells] at hcs
      obtain ⟨rfl, rfl, rfl⟩ := hcs
      exact inCode_of hl hm (by simpa using hz) hcell hwz
  obtain ⟨a1, len1, cap1, e1⟩ := okWide_slice Tryd.underlying22 (hval 1 22 v1 rfl rfl)
  subst e1
  have w1 : InCode W a1 len1 cap1 := by
    obtain ⟨fuel, hf⟩ := h1
    rcases open_ints Tryd.underlying22 Tryd.underlying5 (by kernel_rfl) hf with ⟨hcs, _⟩ | ⟨x, l, c, zs, hcs, _, hl, hm, hz, _, hcell, hwz⟩
    · simp [Value.cells] at hcs
      obtain ⟨rfl, rfl, rfl⟩ := hcs
      exact inCode_nil W
    · simp [Value.cells] at hcs
      obtain ⟨rfl, rfl, rfl⟩ := hcs
      exact inCode_of hl hm (by simpa using hz) hcell hwz
  clear hA0 hval0
  refine (walk a0 len0 cap0 a1 len1 cap1 W w0 w1 (of_laid hL)).mono fun e W' ⟨he, bel⟩ => ?_
  subst he
  exact ⟨_, rfl, _, _, _, [], _, [], hW', trodAll_mk1 (shut_bool Tryd.underlying4 _), (trodAll_cons_mk (Below.trod laidOut (by kernel_rfl) (of_decide_eq_true (by kernel_rfl)) k0 bel lt0) (trodAll_cons_mk (Below.trod laidOut (by kernel_rfl) (of_decide_eq_true (by kernel_rfl)) k1 bel lt1) trodAll_mk0)), rfl, bel.frame _, fun h => by cases h⟩

theorem over : Rows.fnTokSpacesRow.holds Tryd.pinned (OpenSpec.ofChange Rows.fnTokSpacesSpec) :=
  OpenClaim.holds_of_wide 7 Tryd.f7 rfl rfl rfl rfl rfl rfl rfl ⟨rfl, rfl, rfl, rfl, rfl⟩ rfl rfl rfl rfl rfl (by kernel_rfl) Tryd.func7 (by kernel_rfl)
    (of_decide_eq_true (by kernel_rfl)) (by unfold Func.isWrapper; first | (rw [if_pos (by decide +kernel)]; kernel_rfl) | (rw [if_neg (by decide +kernel)]; exact ⟨rfl, rfl⟩))
    (fun os started H enc _ => lifted os started H enc)
end Go.Proofs.YtfepifcpcfoaaaaDoor.fnTokSpaces
namespace Go.Proofs.YtfepifcpcfoaaaaDoor

/-- The given statement. -/
theorem fnTokSpaces_proved : Rows.FnTokSpacesCardSaid :=
  Claim7.holds_tied_plain_at .later [] [.data, .data, .data, .sentinel, .sentinel] true (true, "29ed2e23a74b36dc8cab4763febb46758cd644b74055fc42faa0c447b9c48a81") true
    fnTokSpaces.over (fun _ h => by cases h) (by kernel_rfl) (fun _ h => by cases h) fnTokSpaces_row_tie rfl ⟨rfl, rfl⟩ (by kernel_rfl) rfl
    (fun f fn hf hfn => by
      obtain rfl : f = 7 := Option.some.inj ((show Tryd.prog.funcNamed "loop.example/interlinear/laws.FnTokSpaces" = some 7 by kernel_rfl).symm.trans hf) |>.symm
      obtain rfl : fn = Tryd.f7 := (Option.some.inj (Tryd.func7.symm.trans hfn)).symm
      exact ⟨by kernel_rfl, fun j t ht => by
        rw [Tryd.params7] at ht
        have hm : t ∈ [22, 22] := by simpa using Array.mem_of_getElem? ht
        have hall : ([22, 22].all fun u => !Tryd.prog.wantsStandIn u) = true := by kernel_rfl
        exact (show Tryd.prog.wantsStandIn t = false by simpa using List.all_eq_true.1 hall t hm)⟩)
    (by kernel_rfl)
#print axioms fnTokSpaces_proved
end Go.Proofs.YtfepifcpcfoaaaaDoor
