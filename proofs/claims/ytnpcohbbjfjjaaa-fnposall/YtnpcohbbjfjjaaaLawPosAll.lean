/-
  'laws.FnPosAll' returns true at every code: each place of each line of the drawn text, and its end, is of one byte, one behind the other; behind the end of a line there is none.
  Conditions: none; every slice of bytes.
-/
import Derived.Test.YtnpcohbbjfjjaaaDraws
import Derived.Test.YtnpcohbbjfjjaaaPosOff
import Derived.Test.YtnpcohbbjfjjaaaRows
import Derived.WalkKit
import Derived.ProofKit
import Derived.OpenShut
import Derived.ShutString
import Derived.ChangeOld
import Derived.Below
import Derived.Lib.SmallJoins
import Derived.SliceStrings
namespace Go.Proofs.Ytnpcohbbjfjjaaa.fnPosAll
open Go.ChangeShapes Go.WideShapes Go.ChangeAt Go.RowKit Go.Joins
open Go.ChangeMaps (open_string shut_string)

theorem extract_size (s : ByteArray) (b e : Nat) (he : e ≤ s.size) : (s.extract b e).size = e - b := by
  rw [ByteArray.size_extract]; omega
theorem own_form {w : World} {base : Nat} {e : TypeId} {v : Value} {n : Nat} {xs : List Value} (h : w.ownsRow base e 1 v n xs) : ∃ A c, v = .slice A n c := by
  rcases h.2 with ⟨rfl, rfl⟩ | ⟨g, cap, _, rfl, _⟩
  · exact ⟨none, 0, rfl⟩
  · exact ⟨_, cap, rfl⟩

/-- Line i of a text that is ok lies in the slice, and it is so wide. -/
theorem line_cell {s : ByteArray} {w : World} {A : Option Addr} (hv : SlIs w A ((lines s).map (vLine s))) (i : Nat) (hi : i < (lines s).length) :
    ∃ g off t, A = some ⟨g, off, none⟩ ∧ g < w.heap.size ∧ w.cell? ⟨g, off + i, none⟩ = some (.string t) ∧ t.size = endOf s i - begOf s i := by
  obtain ⟨g, off, e, hg, hc⟩ := hv.at_ (k := i) (by simpa using hi)
  have hat := lines_at s i hi
  have hx : (lines s)[i] = (begOf s i, endOf s i) := by
    rw [List.getElem?_eq_getElem hi] at hat
    exact Option.some.inj hat
  refine ⟨g, off, s.extract (begOf s i) (endOf s i), e, hg, ?_, extract_size s _ _ (end_le s i hi).2⟩
  rw [hc]
  simp only [List.getElem_map, hx]
  rfl

theorem beg_zero (s : ByteArray) : begOf s 0 = 0 := by
  obtain ⟨tl, e, _⟩ := beg_form (L s) 0 0
  have h := lines_at s 0 (lines_ne s)
  have h2 : (beg (lines s))[0]? = some (begOf s 0) := by simp [beg, h]
  unfold lines at h2
  rw [e] at h2
  simpa using h2.symm

/-- Behind the end of a line there is no place. -/
theorem no_place (s : ByteArray) (i : Nat) (hi : i < (lines s).length) : ¬ IsPlace s (i : Int) ((endOf s i - begOf s i + 1 : Nat) : Int) := by
  rintro ⟨n, hn, h1, h2⟩
  obtain ⟨e, hx, hx2, hx3, _⟩ := posTo_main s n hn
  have e1 : (posTo s n).1 = i := by omega
  have e2 : (posTo s n).2 = endOf s i - begOf s i + 1 := by omega
  rw [e1, e2, lines_at s i hi] at hx
  rw [e2] at hx2
  simp at hx
  have := (end_le s i hi).1
  omega

/-- How many places are ahead of line i. -/
def ahead (s : ByteArray) (i : Nat) : Nat := if i < (lines s).length then begOf s i else s.size + 1
theorem ahead_zero (s : ByteArray) : ahead s 0 = 0 := by unfold ahead; rw [if_pos (lines_ne s), beg_zero]
theorem ahead_succ (s : ByteArray) (i : Nat) (hi : i < (lines s).length) : ahead s (i + 1) = endOf s i + 1 := by
  unfold ahead
  by_cases h : i + 1 < (lines s).length
  · rw [if_pos h, end_next s i h]
  · rw [if_neg h, end_last s i (by omega)]

set_option maxRecDepth 100000 in
set_option maxHeartbeats 4000000 in
theorem walk (A : Option Addr) (len cap : Nat) (w : World) (h1 : InCode w A len cap) :
    Calls Try.prog 6 #[.slice A len cap] w fun e w' => e = .returned (.bool true) ∧ Below w.heap.size w w' := by
  by_cases hl1 : 1048576 < len
  · have q1 : decide ((1048576 : Int) < (len : Int)) = true := by simp; omega
    clear h1
    go_enter Try.func6, Try.ntmps6
    go_wp2_with fail
    go_ret
    exact ⟨rfl, Below.refl _ _⟩
  · have q1 : decide ((1048576 : Int) < (len : Int)) = false := by simp; omega
    have H1 := Lib.hid h1
    clear h1
    go_enter Try.func6, Try.ntmps6
    go_wp2_with fail
    refine (drawPosOff_any A len cap w H1.out).mono ?_
    rintro e w1 ⟨s, a, b, hs, _, _, _, _, rfl, hB1⟩
    clear H1
    have hll := lines_length s
    go_wp2_with fail
    refine (textLines_any s _ (by omega)).mono ?_
    rintro e w2 ⟨v, rfl, hv, hb2⟩
    have hB2 : Below w.heap.size w w2 := (hB1.alloc hB1.size _).trans (hb2.mono (by have := hB1.size; simp; omega))
    obtain ⟨B, d, rfl⟩ := own_form hv
    go_wp2_with fail
    refine (specTextLines_any s w2 (by omega)).mono ?_
    rintro e w3 ⟨v, rfl, hv3, hb3⟩
    have hB3 : Below w.heap.size w w3 := hB2.trans (hb3.mono hB2.size)
    obtain ⟨C, dc, rfl⟩ := own_form hv3
    have hsl := (SlIs.own hv).below hb3
    clear hv hv3 hB1 hB2 hb2 hb3
    have hq0 : (((linesV s).length : Int) != ((linesV s).length : Int)) = false := by simp
    cases hok : okB s
    · have hl0 : linesV s = [] := by unfold linesV; rw [hok]; rfl
      rw [hl0] at hq0 ⊢
      simp only [List.length_nil] at hq0 ⊢
      clear hsl hl0 hok
      go_wp2_with fail
      go_loop [6, 7] (fun n i => n = .int .i64 0 ∧ i = .int .i64 0) (fun _ _ => 0)
      case atStart => exact ⟨rfl, rfl⟩
      case round =>
        obtain ⟨rfl, rfl⟩ := hrel
        go_wp2_with fail
        go_ret
        exact ⟨rfl, hB3⟩
    · have hl0 : linesV s = (lines s).map (vLine s) := by unfold linesV; rw [hok]; rfl
      rw [hl0] at hq0 hsl ⊢
      simp only [List.length_map] at hq0 ⊢
      have HOK := Lib.hid hok
      have HSL := Lib.hid hsl
      clear hl0 hok hsl
      have hne := lines_ne s
      go_wp2_with fail
      go_loopw [6, 7] (fun n i wr => ∃ k : Nat, k ≤ (lines s).length ∧ i = .int .i64 k ∧ n = .int .i64 (ahead s k : Int) ∧ Below w3.heap.size w3 wr) (fun _ i _ => (lines s).length - (intOf i).toNat)
      case atStart => exact ⟨0, Nat.zero_le _, rfl, by rw [ahead_zero]; rfl, Below.refl _ _⟩
      case round =>
        obtain ⟨i, hi, rfl, rfl, hnx⟩ := hrel
        obtain ⟨wo, rfl⟩ : ∃ wo : World, wo = wr := ⟨_, rfl⟩
        by_cases hil : i < (lines s).length
        · obtain ⟨g, off, t, rfl, hg, hcell, hts⟩ := line_cell HSL.out i hil
          have hend := end_le s i hil
          have HAS := Lib.hid (ahead_succ s i hil)
          have HA := Lib.hid (show ahead s i = begOf s i by unfold ahead; rw [if_pos hil])
          have HPB := Lib.hid (fun k (hk : k ≤ t.size) => posTo_back s i _ _ (begOf s i + k) (lines_at s i hil) (by omega) (by omega))
          have HNP := Lib.hid (no_place s i hil)
          rw [HA.out]
          rw [← hts] at HNP
          have hsum : begOf s i + t.size = endOf s i := by omega
          have hts8 : t.size ≤ 300 := by omega
          have hbg8 : begOf s i ≤ 300 := by omega
          have HSUM := Lib.hid hsum
          clear hts hend hsum HA
          generalize begOf s i = bg at *
          go_wp2_with fail
          go_loopw [6, 8] (fun n k wr => ∃ j : Nat, j ≤ t.size + 1 ∧ k = .int .i64 j ∧ n = .int .i64 ((bg + j : Nat) : Int) ∧ Below wo.heap.size wo wr) (fun _ k _ => t.size + 1 - (intOf k).toNat)
          case atStart => exact ⟨0, Nat.zero_le _, rfl, rfl, Below.refl _ _⟩
          case round =>
            obtain ⟨j, hj, rfl, rfl, hnr⟩ := hrel
            have hcw := (hnr.cell (p := ⟨g, off + i, none⟩) (Nat.lt_of_lt_of_le hg hnx.size)).trans ((hnx.cell (p := ⟨g, off + i, none⟩) hg).trans hcell)
            have hi0 : (0 : Int) ≤ (i : Int) := by omega
            have hi1 : (i : Int) < ((lines s).length : Int) := by omega
            by_cases hjl : j ≤ t.size
            · have HF := Lib.hid (posOff_yes s (bg + j) wr (by omega) HOK.out (by have := HSUM.out; have := (end_le s i hil).2; omega))
              rw [HPB.out j hjl] at HF
              simp only [Nat.add_sub_cancel_left] at HF
              have hq : (((bg + j : Nat) : Int) != ((bg + j : Nat) : Int)) = false := by simp
              have hjt : (j : Int) ≤ (t.size : Int) := by omega
              generalize (lines s).length = m at *
              go_wp2_with fail
              refine HF.out.mono ?_
              rintro e w5 ⟨rfl, hb5⟩
              go_wp2_with fail
              go_roundw
              case rel => exact ⟨j + 1, by omega, by go_num, by go_num, hnr.trans (hb5.mono hnr.size)⟩
              case measure => simp [intOf]; omega
            · obtain rfl : j = t.size + 1 := by omega
              have HF := Lib.hid (posOff_no s (i : Int) ((t.size + 1 : Nat) : Int) wr (by omega) (by omega) (by omega) (fun h => HNP.out h.2))
              rw [show ((t.size + 1 : Nat) : Int) = (t.size : Int) + 1 from by omega] at HF
              go_wp2_with fail
              refine HF.out.mono ?_
              rintro e w5 ⟨rfl, hb5⟩
              go_wp2_with fail
              go_roundw
              case rel => exact ⟨i + 1, by omega, by go_num, by rw [HAS.out, ← HSUM.out]; go_num, hnx.trans ((hnr.trans (hb5.mono hnr.size)).mono hnx.size)⟩
              case measure => simp [intOf]; omega
        · obtain rfl : i = (lines s).length := by omega
          have HA := Lib.hid (show ahead s (lines s).length = s.size + 1 by unfold ahead; rw [if_neg (Nat.lt_irrefl _)])
          rw [HA.out]
          have hz : (((lines s).length : Int) == 0) = false := beq_eq_false_iff_ne.2 (by omega)
          have he : (((s.size + 1 : Nat) : Int) == (s.size : Int) + 1) = true := by simp
          generalize (lines s).length = m at *
          go_wp2_with fail
          go_ret
          exact ⟨rfl, hB3.trans (hnx.mono hB3.size)⟩

theorem own : ownKnob Try.prog.godebug = none := by kernel_rfl
theorem laidOut : laidOutB Try.prog = true := by kernel_rfl

set_option linter.unusedVariables false in
set_option maxRecDepth 100000 in
theorem lifted (os : Os) (started : os.Started) (H : Type) (enc : TypeId × Value → H) :
    ReturnsInHanded {} Try.checked os 6 .any (Rows.fnPosAllSpec.pre6 enc Try.prog Try.f6 Rows.fnPosAllRow.domain false) (Rows.fnPosAllSpec.post enc Try.prog Try.f6 false true false false) := by
  refine returnsInHanded_of_change (C := Try.checked) own started (by kernel_rfl) Try.func6
    (ChangeSpec.witness6 (enc := enc) (C := Try.checked) false ⟨#[], #[.slice none 0 0], []⟩ 8 (by kernel_rfl) (by kernel_rfl) (by kernel_rfl) (by kernel_rfl)) ?_
  intro W base args ds gs before hval0 hW hcnd _
  have hval : ∀ (j : Nat) t v, Try.f6.params[j]? = some t → args[j]? = some v → Value.okWide Try.prog W .any base t v := hval0
  have hW' := hW
  obtain ⟨p, q, hA0, hV, rfl, hfz, hnd⟩ := hW
  have hA : DataW.TrodAll enc Try.prog W 0 (fun _ => true) true Try.f6.params.toList args.toList ds p := hA0
  rw [Try.params6] at hA hval
  obtain ⟨v0, vs0, d0, ds0, p0, q0, hargs, rfl, rfl, h0, r0⟩ := trodAll_cons hA
  obtain ⟨rfl, rfl, rfl⟩ := trodAll_nil r0
  obtain rfl : args = #[v0] := by cases args; simp_all
  obtain ⟨rfl, rfl⟩ := trodVars_none hV
  have k0 := h0
  have lt0 : ∀ x ∈ p0, x.block < W.heap.size := by obtain ⟨m, hm⟩ := k0; exact DataW.trod_lt m _ _ _ hm
  obtain ⟨a0, len0, cap0, e0⟩ := okWide_slice Try.underlying22 (hval 0 22 v0 rfl rfl)
  subst e0
  have w0 : InCode W a0 len0 cap0 := by
    obtain ⟨fuel, hf⟩ := h0
    rcases open_ints Try.underlying22 Try.underlying5 (by kernel_rfl) hf with ⟨hcs, _⟩ | ⟨x, l, c, zs, hcs, _, hl, hm, hz, _, hcell, hwz⟩
    · simp [Value.cells] at hcs
      obtain ⟨rfl, rfl, rfl⟩ := hcs
      exact inCode_nil W
    · simp [Value.cells] at hcs
      obtain ⟨rfl, rfl, rfl⟩ := hcs
      exact inCode_of hl hm (by simpa using hz) hcell hwz
  clear hA0 hval0
  refine (walk a0 len0 cap0 W w0).mono fun e W' ⟨he, bel⟩ => ?_
  subst he
  exact ⟨_, rfl, _, _, _, [], _, [], hW', trodAll_mk1 (shut_bool Try.underlying4 _), (trodAll_cons_mk (Below.trod laidOut (by kernel_rfl) (of_decide_eq_true (by kernel_rfl)) k0 bel lt0) trodAll_mk0), rfl, bel.frame _, fun h => by cases h⟩

theorem over : Rows.fnPosAllRow.holds Try.pinned (OpenSpec.ofChange Rows.fnPosAllSpec) :=
  OpenClaim.holds_of_wide 6 Try.f6 rfl rfl rfl rfl rfl rfl rfl ⟨rfl, rfl, rfl, rfl, rfl⟩ rfl rfl rfl rfl rfl (by kernel_rfl) Try.func6 (by kernel_rfl)
    (of_decide_eq_true (by kernel_rfl)) (by unfold Func.isWrapper; first | (rw [if_pos (by decide +kernel)]; kernel_rfl) | (rw [if_neg (by decide +kernel)]; exact ⟨rfl, rfl⟩))
    (fun os started H enc _ => lifted os started H enc)
end Go.Proofs.Ytnpcohbbjfjjaaa.fnPosAll
namespace Go.Proofs.Ytnpcohbbjfjjaaa

/-- The given statement. -/
theorem fnPosAll_proved : Rows.FnPosAllSaid := fnPosAll.over
#print axioms fnPosAll_proved
end Go.Proofs.Ytnpcohbbjfjjaaa
