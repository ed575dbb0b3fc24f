/-
  'laws.FnPosOff' returns true at every code: a place of the drawn text is of one byte just if there is such a line, and it is as wide; its place is it.
  Conditions: none; every slice of bytes.
-/
import Derived.Test.YtnpcohbbjfjjaaaDraws
import Derived.Test.YtnpcohbbjfjjaaaPosOff
import Derived.Test.YtnpcohbbjfjjaaaRows
import Derived.WalkKit
import Derived.ProofKit
import Derived.OpenShut
import Derived.ShutString
import Derived.ChangeOld
import Derived.Below
import Derived.Lib.SmallJoins
import Derived.SliceStrings
import Derived.Deep.QuietTactic
import Derived.BigQuiet
namespace Go.Proofs.Ytnpcohbbjfjjaaa.fnPosOff
open Go.ChangeShapes Go.WideShapes Go.ChangeAt Go.RowKit Go.Joins
open Go.ChangeMaps (open_string shut_string)

set_option maxHeartbeats 400000 in
theorem l1In_any (a n : Nat) (w : World) (h : a < n) :
    Calls Try.prog 23 #[.int .i64 (a : Int), .int .i64 (n : Int)] w fun e w' => e = .returned (.int .i64 (a : Int)) ∧ w' = w := by
  have q1 : decide ((a : Int) < 0) = false := by simp
  have q2 : decide ((n : Int) ≤ (a : Int)) = false := by simp; omega
  go_enter Try.func23, Try.ntmps23
  go_wp2
  go_ret
  exact ⟨rfl, rfl⟩

theorem extract_size (s : ByteArray) (b e : Nat) (he : e ≤ s.size) : (s.extract b e).size = e - b := by
  rw [ByteArray.size_extract]; omega

/-- The lines of a text that is ok, as a slice: line i, and how wide it is. -/
theorem line_cell {s : ByteArray} {w : World} {base : Nat} {v : Value} (hok : okB s = true) (hv : w.ownsRow base 9 1 v (linesV s).length (linesV s)) :
    ∃ A c, v = .slice A (lines s).length c ∧ ∀ i, i < (lines s).length → ∃ g off t, A = some ⟨g, off, none⟩ ∧ g < w.heap.size ∧ w.cell? ⟨g, off + i, none⟩ = some (.string t) ∧ t.size = endOf s i - begOf s i := by
  have hl : linesV s = (lines s).map (vLine s) := by unfold linesV; rw [hok]; rfl
  rw [hl, List.length_map] at hv
  obtain ⟨A, c, rfl⟩ : ∃ A c, v = .slice A (lines s).length c := by
    rcases hv.2 with ⟨rfl, h0⟩ | ⟨g, cap, _, rfl, _⟩
    · exact ⟨none, 0, by rw [h0]⟩
    · exact ⟨_, cap, rfl⟩
  refine ⟨A, c, rfl, fun i hi => ?_⟩
  obtain ⟨g, off, e, hg, hc⟩ := (SlIs.own hv).at_ (k := i) (by simpa using hi)
  have hat := lines_at s i hi
  have hx : (lines s)[i] = (begOf s i, endOf s i) := by
    rw [List.getElem?_eq_getElem hi] at hat
    exact Option.some.inj hat
  refine ⟨g, off, s.extract (begOf s i) (endOf s i), e, hg, ?_, extract_size s _ _ (end_le s i hi).2⟩
  rw [hc]
  simp only [List.getElem_map, hx]
  rfl

set_option maxRecDepth 100000 in
set_option maxHeartbeats 4000000 in
theorem walk (A : Option Addr) (len cap : Nat) (w : World) (h1 : InCode w A len cap) :
    Calls Try.prog 4 #[.slice A len cap] w fun e w' => e = .returned (.bool true) ∧ Below w.heap.size w w' := by
  by_cases hl1 : 1048576 < len
  · have q1 : decide ((1048576 : Int) < (len : Int)) = true := by simp; omega
    clear h1
    go_enter Try.func4, Try.ntmps4
    go_wp2_with fail
    go_ret
    exact ⟨rfl, Below.refl _ _⟩
  · have q1 : decide ((1048576 : Int) < (len : Int)) = false := by simp; omega
    have H1 := Lib.hid h1
    clear h1
    go_enter Try.func4, Try.ntmps4
    go_wp2_with fail
    refine (drawPosOff_any A len cap w H1.out).mono ?_
    rintro e w1 ⟨s, a, b, hs, ha1, ha2, hb1, hb2, rfl, hB1⟩
    have hll := lines_length s
    have HT := Lib.hid (fun W => textLines_any s W (by omega))
    by_cases hno : okB s = true ∧ IsPlace s a b
    · obtain ⟨hok, n, hn, rfl, rfl⟩ := hno
      have HI := Lib.hid (fun W => posOff_yes s n W (by omega) hok hn)
      have HS := Lib.hid (fun W => specPosOff_yes s n W (by omega) hok hn)
      have HO := Lib.hid (fun W => posOf_yes s n W (by omega) hok hn)
      simp only [posV] at HO
      obtain ⟨ee, hx, hx2, hx3, _, _⟩ := posTo_main s n hn
      have hlen : (posTo s n).1 < (lines s).length := (List.getElem?_eq_some_iff.1 hx).1
      have hpair := (lines_at s _ hlen).symm.trans hx
      simp only [Option.some.injEq, Prod.mk.injEq] at hpair
      clear hx
      generalize posTo s n = P at *
      obtain ⟨i, j⟩ := P
      simp only at *
      go_wp2_with fail
      refine (HI.out _).mono ?_
      rintro e w2 ⟨rfl, hb2'⟩
      have bx := (Box2.new w1 26 (.int .i64 (i : Int)) (.int .i64 (j : Int))).below hb2' (by simp)
      have c0 := bx.cell0
      have c1 := bx.cell1
      have hlt := (Array.getElem?_eq_some_iff.1 bx).1
      have hB2 : Below w.heap.size w w2 := (hB1.alloc hB1.size _).trans (hb2'.mono (by have := hB1.size; simp; omega))
      go_wp2_with fail
      refine (HS.out _).mono ?_
      rintro e w3 ⟨rfl, hb3⟩
      have bx3 := bx.below hb3 hlt
      have hB3 : Below w.heap.size w w3 := hB2.trans (hb3.mono hB2.size)
      have hlt3 := (Array.getElem?_eq_some_iff.1 bx3).1
      clear bx c0 c1
      go_wp2_with fail
      refine (HT.out _).mono ?_
      rintro e w4 ⟨v, rfl, hv, hb4⟩
      have bx4 := bx3.below hb4 hlt3
      have hB4 : Below w.heap.size w w4 := hB3.trans (hb4.mono hB3.size)
      have c0 := bx4.cell0
      have c1 := bx4.cell1
      have hlt4 := (Array.getElem?_eq_some_iff.1 bx4).1
      clear bx3 hb2' hb3 hb4 HI HS HT
      obtain ⟨B, d, rfl, hline⟩ := line_cell hok hv
      obtain ⟨g, off, t, rfl, hg, hcell, hts⟩ := hline i hlen
      have t0 : decide ((0 : Int) ≤ (i : Int)) = true := by simp
      have t1 : decide ((i : Int) < ((lines s).length : Int)) = true := by simp; omega
      have t2 : decide ((0 : Int) ≤ (j : Int)) = true := by simp
      have t3 : decide ((j : Int) ≤ (t.size : Int)) = true := by simp; omega
      have n1 : decide (i < (lines s).length) = true := by simp; omega
      have n3 : decide (j ≤ t.size) = true := by simp; omega
      have HL := Lib.hid (fun W => l1In_any i (lines s).length W hlen)
      have hi0 : (0 : Int) ≤ (i : Int) := by omega
      have hi1 : (i : Int) < ((lines s).length : Int) := by omega
      clear hline hts hpair hv hok
      generalize (lines s).length = m at *
      go_wp2
      go_quiet ((go_at_call 23; exact Calls.quiet_of_same (HL.out _)))
      go_wp2_with fail
      refine (HO.out _).mono ?_
      rintro e w5 ⟨rfl, hb5⟩
      have bx5 := Box2.below (W := w4.drewN nq) bx4 hb5 hlt4
      have hB5 : Below w.heap.size w w5 := (below_more hB4 nq).trans (hb5.mono hB4.size)
      have e0 := bx5.cell0
      have e1 := bx5.cell1
      have hlt5 := (Array.getElem?_eq_some_iff.1 bx5).1
      clear bx4 c0 c1 hcell
      go_wp2
      go_ret
      exact ⟨rfl, hB5.alloc hB5.size _⟩
    · have HI := Lib.hid (fun W => posOff_no s a b W (by omega) (by omega) (by omega) hno)
      have HS := Lib.hid (fun W => specPosOff_no s a b W (by omega) hno)
      go_wp2_with fail
      refine (HI.out _).mono ?_
      rintro e w2 ⟨rfl, hb2'⟩
      have bx := (Box2.new w1 26 (.int .i64 a) (.int .i64 b)).below hb2' (by simp)
      have c0 := bx.cell0
      have c1 := bx.cell1
      have hlt := (Array.getElem?_eq_some_iff.1 bx).1
      have hB2 : Below w.heap.size w w2 := (hB1.alloc hB1.size _).trans (hb2'.mono (by have := hB1.size; simp; omega))
      go_wp2_with fail
      refine (HS.out _).mono ?_
      rintro e w3 ⟨rfl, hb3⟩
      have bx3 := bx.below hb3 hlt
      have hB3 : Below w.heap.size w w3 := hB2.trans (hb3.mono hB2.size)
      have hlt3 := (Array.getElem?_eq_some_iff.1 bx3).1
      clear bx c0 c1
      go_wp2_with fail
      refine (HT.out _).mono ?_
      rintro e w4 ⟨v, rfl, hv, hb4⟩
      have bx4 := bx3.below hb4 hlt3
      have hB4 : Below w.heap.size w w4 := hB3.trans (hb4.mono hB3.size)
      have c0 := bx4.cell0
      have c1 := bx4.cell1
      clear bx3 hb2' hb3 hb4 HI HS HT
      by_cases ha0 : a < 0
      · obtain ⟨B, d, n, rfl⟩ : ∃ B d n, v = .slice B n d := by
          rcases hv.2 with ⟨rfl, _⟩ | ⟨g, cap, _, rfl, _⟩
          · exact ⟨_, _, _, rfl⟩
          · exact ⟨_, _, _, rfl⟩
        have t0 : decide (0 ≤ a) = false := by simp; omega
        clear hv
        go_wp2
        go_quiet (fail)
        go_wp2
        go_ret
        exact ⟨rfl, below_more hB4 _⟩
      · have t0 : decide (0 ≤ a) = true := by simp; omega
        cases hok : okB s
        · have hl0 : linesV s = [] := by unfold linesV; rw [hok]; rfl
          rw [hl0] at hv
          obtain ⟨B, d, rfl⟩ : ∃ B d, v = .slice B 0 d := by
            rcases hv.2 with ⟨rfl, _⟩ | ⟨g, cap, _, rfl, _⟩
            · exact ⟨_, _, rfl⟩
            · exact ⟨_, _, rfl⟩
          have t1 : decide (a < 0) = false := by simp; omega
          clear hv hl0 hok hno
          go_wp2
          go_quiet (fail)
          go_wp2
          go_ret
          exact ⟨rfl, below_more hB4 _⟩
        · obtain ⟨B, d, rfl, hline⟩ := line_cell hok hv
          have hnp : ¬ IsPlace s a b := fun h => hno ⟨hok, h⟩
          clear hv hok hno
          by_cases hal : ((lines s).length : Int) ≤ a
          · have t1 : decide (a < ((lines s).length : Int)) = false := by simp; omega
            clear hline hnp
            generalize (lines s).length = n at *
            go_wp2
            go_quiet (fail)
            go_wp2
            go_ret
            exact ⟨rfl, below_more hB4 _⟩
          · obtain ⟨i, rfl⟩ := Int.eq_ofNat_of_zero_le (show 0 ≤ a by omega)
            have hil : i < (lines s).length := by omega
            have t1 : decide ((i : Int) < ((lines s).length : Int)) = true := by simp; omega
            by_cases hb0 : b < 0
            · have t2 : decide (0 ≤ b) = false := by simp; omega
              clear hline hnp
              generalize (lines s).length = n at *
              go_wp2
              go_quiet (fail)
              go_wp2
              go_ret
              exact ⟨rfl, below_more hB4 _⟩
            · have t2 : decide (0 ≤ b) = true := by simp; omega
              obtain ⟨g, off, t, rfl, hg, hcell, hts⟩ := hline i hil
              have hend := end_le s i hil
              have hbig : (t.size : Int) < b := by
                rcases Int.lt_or_le (t.size : Int) b with h | h
                · exact h
                · obtain ⟨j, rfl⟩ := Int.eq_ofNat_of_zero_le (show 0 ≤ b by omega)
                  refine absurd ⟨begOf s i + j, by omega, ?_⟩ hnp
                  rw [posTo_back s i _ _ (begOf s i + j) (lines_at s i hil) (by omega) (by omega)]
                  exact ⟨rfl, by simp⟩
              have t3 : decide (b ≤ (t.size : Int)) = false := by simp; omega
              have HL := Lib.hid (fun W => l1In_any i (lines s).length W hil)
              have hi0 : (0 : Int) ≤ (i : Int) := by omega
              have hi1 : (i : Int) < ((lines s).length : Int) := by omega
              clear hline hnp hts hend
              generalize (lines s).length = n at *
              go_wp2
              go_quiet ((go_at_call 23; exact Calls.quiet_of_same (HL.out _)))
              go_wp2
              go_ret
              exact ⟨rfl, below_more hB4 _⟩

theorem own : ownKnob Try.prog.godebug = none := by kernel_rfl
theorem laidOut : laidOutB Try.prog = true := by kernel_rfl

set_option linter.unusedVariables false in
set_option maxRecDepth 100000 in
theorem lifted (os : Os) (started : os.Started) (H : Type) (enc : TypeId × Value → H) :
    ReturnsInHanded {} Try.checked os 4 .any (Rows.fnPosOffSpec.pre6 enc Try.prog Try.f4 Rows.fnPosOffRow.domain false) (Rows.fnPosOffSpec.post enc Try.prog Try.f4 false true false false) := by
  refine returnsInHanded_of_change (C := Try.checked) own started (by kernel_rfl) Try.func4
    (ChangeSpec.witness6 (enc := enc) (C := Try.checked) false ⟨#[], #[.slice none 0 0], []⟩ 8 (by kernel_rfl) (by kernel_rfl) (by kernel_rfl) (by kernel_rfl)) ?_
  intro W base args ds gs before hval0 hW hcnd _
  have hval : ∀ (j : Nat) t v, Try.f4.params[j]? = some t → args[j]? = some v → Value.okWide Try.prog W .any base t v := hval0
  have hW' := hW
  obtain ⟨p, q, hA0, hV, rfl, hfz, hnd⟩ := hW
  have hA : DataW.TrodAll enc Try.prog W 0 (fun _ => true) true Try.f4.params.toList args.toList ds p := hA0
  rw [Try.params4] at hA hval
  obtain ⟨v0, vs0, d0, ds0, p0, q0, hargs, rfl, rfl, h0, r0⟩ := trodAll_cons hA
  obtain ⟨rfl, rfl, rfl⟩ := trodAll_nil r0
  obtain rfl : args = #[v0] := by cases args; simp_all
  obtain ⟨rfl, rfl⟩ := trodVars_none hV
  have k0 := h0
  have lt0 : ∀ x ∈ p0, x.block < W.heap.size := by obtain ⟨m, hm⟩ := k0; exact DataW.trod_lt m _ _ _ hm
  obtain ⟨a0, len0, cap0, e0⟩ := okWide_slice Try.underlying22 (hval 0 22 v0 rfl rfl)
  subst e0
  have w0 : InCode W a0 len0 cap0 := by
    obtain ⟨fuel, hf⟩ := h0
    rcases open_ints Try.underlying22 Try.underlying5 (by kernel_rfl) hf with ⟨hcs, _⟩ | ⟨x, l, c, zs, hcs, _, hl, hm, hz, _, hcell, hwz⟩
    · simp [Value.cells] at hcs
      obtain ⟨rfl, rfl, rfl⟩ := hcs
      exact inCode_nil W
    · simp [Value.cells] at hcs
      obtain ⟨rfl, rfl, rfl⟩ := hcs
      exact inCode_of hl hm (by simpa using hz) hcell hwz
  clear hA0 hval0
  refine (walk a0 len0 cap0 W w0).mono fun e W' ⟨he, bel⟩ => ?_
  subst he
  exact ⟨_, rfl, _, _, _, [], _, [], hW', trodAll_mk1 (shut_bool Try.underlying4 _), (trodAll_cons_mk (Below.trod laidOut (by kernel_rfl) (of_decide_eq_true (by kernel_rfl)) k0 bel lt0) trodAll_mk0), rfl, bel.frame _, fun h => by cases h⟩

theorem over : Rows.fnPosOffRow.holds Try.pinned (OpenSpec.ofChange Rows.fnPosOffSpec) :=
  OpenClaim.holds_of_wide 4 Try.f4 rfl rfl rfl rfl rfl rfl rfl ⟨rfl, rfl, rfl, rfl, rfl⟩ rfl rfl rfl rfl rfl (by kernel_rfl) Try.func4 (by kernel_rfl)
    (of_decide_eq_true (by kernel_rfl)) (by unfold Func.isWrapper; first | (rw [if_pos (by decide +kernel)]; kernel_rfl) | (rw [if_neg (by decide +kernel)]; exact ⟨rfl, rfl⟩))
    (fun os started H enc _ => lifted os started H enc)
end Go.Proofs.Ytnpcohbbjfjjaaa.fnPosOff
namespace Go.Proofs.Ytnpcohbbjfjjaaa

/-- The given statement. -/
theorem fnPosOff_proved : Rows.FnPosOffSaid := fnPosOff.over
#print axioms fnPosOff_proved
end Go.Proofs.Ytnpcohbbjfjjaaa
