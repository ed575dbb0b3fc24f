/-
  'laws.FnTextOk' returns true at every two codes: a text that is not ok is never told to be ok.
  Conditions: none; every two slices of bytes.
-/
import Derived.Test.YtnpcohbbjfjjaaaDraws
import Derived.Test.YtnpcohbbjfjjaaaRows
import Derived.WalkKit
import Derived.ProofKit
import Derived.OpenShut
import Derived.ShutString
import Derived.ChangeOld
import Derived.Below
import Derived.Lib.SmallJoins
import Derived.SliceStrings
namespace Go.Proofs.Ytnpcohbbjfjjaaa.fnTextOk
open Go.ChangeShapes Go.WideShapes Go.ChangeAt Go.RowKit Go.Joins
open Go.ChangeMaps (open_string shut_string)

def wAfter : Nat → List UInt8 → Nat
  | w, [] => w
  | w, c :: l => if c = 10 then wAfter 0 l else wAfter (w + 1) l
theorem okFrom_append (a b : List UInt8) : ∀ w, okFrom w (a ++ b) = (okFrom w a && okFrom (wAfter w a) b) := by
  induction a with
  | nil => intro w; simp [okFrom, wAfter]
  | cons c a ih =>
    intro w
    by_cases h : c = 10
    · simp only [List.cons_append, okFrom, wAfter, h, if_true]; exact ih 0
    · simp only [List.cons_append, okFrom, wAfter, h, if_false, ih (w + 1), Bool.and_assoc]

theorem tab_bad (s : ByteArray) : okB (s ++ ⟨#[9]⟩) = false := by
  unfold okB
  rw [L_append, okFrom_append]
  have : okFrom (wAfter 0 (L s)) (L ⟨#[9]⟩) = false := by
    show okFrom _ [9] = false
    simp [okFrom, plainC]
  rw [this]; simp

/-- A newline, and so many letters. -/
def wideS (k : Nat) : ByteArray := ⟨(10 :: List.replicate k 97).toArray⟩
theorem wideS_succ (k : Nat) : wideS k ++ ⟨#[97]⟩ = wideS (k + 1) := by
  unfold wideS
  apply ByteArray.ext
  simp [List.replicate_succ']
theorem wideS_size (k : Nat) : (wideS k).size = k + 1 := by
  simp [wideS, ByteArray.size]
theorem wide_bad (s : ByteArray) : okB (s ++ wideS 121) = false := by
  unfold okB
  rw [L_append, okFrom_append]
  have : okFrom (wAfter 0 (L s)) (L (wideS 121)) = false := by
    have e : L (wideS 121) = 10 :: List.replicate 121 97 := by simp [L, wideS]
    rw [e]
    simp only [okFrom, if_true]
    decide +kernel
  rw [this]; simp
theorem both_ok (s t : ByteArray) (hs : okB s = true) (ht : okB t = true) : okB (s ++ ⟨#[10]⟩ ++ t) = decide ((s ++ ⟨#[10]⟩ ++ t).size ≤ 4000) := by
  unfold okB at *
  simp only [Bool.and_eq_true] at hs ht
  have : okFrom 0 (L (s ++ ⟨#[10]⟩ ++ t)) = true := by
    rw [L_append, L_append, List.append_assoc, okFrom_append, hs.2]
    show (true && okFrom _ (10 :: L t)) = true
    simp [okFrom, ht.2]
  rw [this]; simp

set_option maxRecDepth 100000 in
set_option maxHeartbeats 2000000 in
theorem walk (A : Option Addr) (len cap : Nat) (A' : Option Addr) (len' cap' : Nat) (w : World) (h1 : InCode w A len cap) (h2 : InCode w A' len' cap') :
    Calls Try.prog 8 #[.slice A len cap, .slice A' len' cap'] w fun e w' => e = .returned (.bool true) ∧ Below w.heap.size w w' := by
  by_cases hl1 : 1048576 < len
  · have q1 : decide ((1048576 : Int) < (len : Int)) = true := by simp; omega
    clear h1 h2
    go_enter Try.func8, Try.ntmps8
    go_wp2_with fail
    go_ret
    exact ⟨rfl, Below.refl _ _⟩
  · have q1 : decide ((1048576 : Int) < (len : Int)) = false := by simp; omega
    by_cases hl2 : 1048576 < len'
    · have q2 : decide ((1048576 : Int) < (len' : Int)) = true := by simp; omega
      clear h1 h2
      go_enter Try.func8, Try.ntmps8
      go_wp2_with fail
      go_ret
      exact ⟨rfl, Below.refl _ _⟩
    · have q2 : decide ((1048576 : Int) < (len' : Int)) = false := by simp; omega
      have H1 := Lib.hid h1
      have H2 := Lib.hid h2
      clear h1 h2
      go_enter Try.func8, Try.ntmps8
      go_wp2_with fail
      refine (drawTextOk_any A len cap w H1.out).mono ?_
      rintro e w1 ⟨s, hs, rfl, hb1⟩
      go_wp2_with fail
      refine (drawTextOk_any A' len' cap' w1 (H2.out.below hb1)).mono ?_
      rintro e w2 ⟨t, ht, rfl, hb2⟩
      have hB2 : Below w.heap.size w w2 := hb1.trans (hb2.mono hb1.size)
      clear hb1 hb2
      have HI := Lib.hid (fun W => textOk_any s W (by omega))
      have HS := Lib.hid (fun W => specTextOk_any s W (by unfold maxLen; omega))
      have HST := Lib.hid (fun W => specTextOk_any t W (by unfold maxLen; omega))
      cases hok : okB s
      · rw [hok] at HI HS
        clear hok
        go_wp2_with fail
        refine (HI.out _).mono ?_
        rintro e w3 ⟨rfl, hb3⟩
        have hB3 : Below w.heap.size w w3 := hB2.trans (hb3.mono hB2.size)
        go_wp2_with fail
        refine (HS.out _).mono ?_
        rintro e w' ⟨rfl, rfl⟩
        go_wp2_with fail
        refine (HS.out _).mono ?_
        rintro e w' ⟨rfl, rfl⟩
        go_wp2_with fail
        refine (HI.out _).mono ?_
        rintro e w4 ⟨rfl, hb4⟩
        have hB4 : Below w.heap.size w w4 := hB3.trans (hb4.mono hB3.size)
        go_wp2_with fail
        refine (HS.out _).mono ?_
        rintro e w' ⟨rfl, rfl⟩
        go_wp2_with fail
        go_ret
        exact ⟨rfl, hB4⟩
      · rw [hok] at HI HS
        have HOK := Lib.hid hok
        clear hok
        go_wp2_with fail
        refine (HI.out _).mono ?_
        rintro e w3 ⟨rfl, hb3⟩
        have hB3 : Below w.heap.size w w3 := hB2.trans (hb3.mono hB2.size)
        go_wp2_with fail
        refine (HS.out _).mono ?_
        rintro e w' ⟨rfl, rfl⟩
        go_wp2_with fail
        refine (HS.out _).mono ?_
        rintro e w' ⟨rfl, rfl⟩
        clear hb3 hB2
        go_wp2_with fail
        go_loop [7] (fun o => ∃ k : Nat, k ≤ 121 ∧ o = .string (wideS k)) (fun o => 122 - (match o with | .string x => x.size | _ => 0))
        case atStart => exact ⟨0, Nat.zero_le _, rfl⟩
        case round =>
          obtain ⟨k, hk, rfl⟩ := hrel
          have hws := wideS_size k
          have HW := Lib.hid (wideS_succ k)
          by_cases hlt : k < 121
          · generalize hwk : wideS k = x at *
            have HX := Lib.hid hwk
            clear hwk
            have hxs : x.size ≤ 121 := by omega
            have HXS := Lib.hid hws
            clear hws
            go_wp2_with fail
            go_round
            case rel => exact ⟨k + 1, by omega, by rw [HW.out]⟩
            case measure =>
              have h1 : (ByteArray.mk #[97]).size = 1 := rfl
              simp only [ByteArray.size_append, h1]
              omega
          · obtain rfl : k = 121 := by omega
            have HTB := Lib.hid (fun W => textOk_any (s ++ ⟨#[9]⟩) W (by rw [ByteArray.size_append]; show s.size + 1 ≤ _; omega))
            rw [tab_bad s] at HTB
            have HWB := Lib.hid (fun W => textOk_any (s ++ wideS 121) W (by rw [ByteArray.size_append]; omega))
            rw [wide_bad s] at HWB
            have HBB := Lib.hid (fun W => textOk_any (s ++ ⟨#[10]⟩ ++ t) W (by rw [ByteArray.size_append, ByteArray.size_append]; show s.size + 1 + t.size ≤ _; omega))
            have HBO := Lib.hid (both_ok s t HOK.out)
            have h9 : (ByteArray.mk #[9]).size = 1 := rfl
            have h10 : (ByteArray.mk #[10]).size = 1 := rfl
            clear HW
            generalize wideS 121 = x at *
            go_wp2_with fail
            refine (HTB.out _).mono ?_
            rintro e w4 ⟨rfl, hb4⟩
            have hB4 : Below w.heap.size w w4 := hB3.trans (hb4.mono hB3.size)
            go_wp2_with fail
            refine (HWB.out _).mono ?_
            rintro e w5 ⟨rfl, hb5⟩
            have hB5 : Below w.heap.size w w5 := hB4.trans (hb5.mono hB4.size)
            clear hb4 hb5 hB3 hB4
            cases hot : okB t
            · rw [hot] at HST
              clear hot HBO HBB
              go_wp2_with fail
              refine (HST.out _).mono ?_
              rintro e w' ⟨rfl, rfl⟩
              go_wp2_with fail
              go_ret
              exact ⟨rfl, hB5⟩
            · rw [hot] at HST
              have HB2 := Lib.hid (HBO.out hot)
              rw [HB2.out] at HBB
              clear hot HBO HB2
              go_wp2_with fail
              refine (HST.out _).mono ?_
              rintro e w' ⟨rfl, rfl⟩
              go_wp2_with fail
              refine (HBB.out _).mono ?_
              rintro e w6 ⟨rfl, hb6⟩
              have hB6 : Below w.heap.size w w6 := hB5.trans (hb6.mono hB5.size)
              go_wp2_with fail
              go_ret
              exact ⟨congrArg (fun x => Ending.returned (.bool x)) (by rw [beq_iff_eq]; exact decide_eq_decide.2 (by omega)), hB6⟩

theorem own : ownKnob Try.prog.godebug = none := by kernel_rfl
theorem laidOut : laidOutB Try.prog = true := by kernel_rfl

set_option linter.unusedVariables false in
set_option maxRecDepth 100000 in
theorem lifted (os : Os) (started : os.Started) (H : Type) (enc : TypeId × Value → H) :
    ReturnsInHanded {} Try.checked os 8 .any (Rows.fnTextOkSpec.pre6 enc Try.prog Try.f8 Rows.fnTextOkRow.domain false) (Rows.fnTextOkSpec.post enc Try.prog Try.f8 false true false false) := by
  refine returnsInHanded_of_change (C := Try.checked) own started (by kernel_rfl) Try.func8
    (ChangeSpec.witness6 (enc := enc) (C := Try.checked) false ⟨#[], #[.slice none 0 0, .slice none 0 0], []⟩ 8 (by kernel_rfl) (by kernel_rfl) (by kernel_rfl) (by kernel_rfl)) ?_
  intro W base args ds gs before hval0 hW hcnd _
  have hval : ∀ (j : Nat) t v, Try.f8.params[j]? = some t → args[j]? = some v → Value.okWide Try.prog W .any base t v := hval0
  have hW' := hW
  obtain ⟨p, q, hA0, hV, rfl, hfz, hnd⟩ := hW
  have hA : DataW.TrodAll enc Try.prog W 0 (fun _ => true) true Try.f8.params.toList args.toList ds p := hA0
  rw [Try.params8] at hA hval
  obtain ⟨v0, vs0, d0, ds0, p0, q0, hargs, rfl, rfl, h0, r0⟩ := trodAll_cons hA
  obtain ⟨v1, vs1, d1, ds1, p1, q1, rfl, rfl, rfl, h1, r1⟩ := trodAll_cons r0
  obtain ⟨rfl, rfl, rfl⟩ := trodAll_nil r1
  obtain rfl : args = #[v0, v1] := by cases args; simp_all
  obtain ⟨rfl, rfl⟩ := trodVars_none hV
  have k0 := h0
  have lt0 : ∀ x ∈ p0, x.block < W.heap.size := by obtain ⟨m, hm⟩ := k0; exact DataW.trod_lt m _ _ _ hm
  have k1 := h1
  have lt1 : ∀ x ∈ p1, x.block < W.heap.size := by obtain ⟨m, hm⟩ := k1; exact DataW.trod_lt m _ _ _ hm
  obtain ⟨a0, len0, cap0, e0⟩ := okWide_slice Try.underlying22 (hval 0 22 v0 rfl rfl)
  subst e0
  have w0 : InCode W a0 len0 cap0 := by
    obtain ⟨fuel, hf⟩ := h0
    rcases open_ints Try.underlying22 Try.underlying5 (by kernel_rfl) hf with ⟨hcs, _⟩ | ⟨x, l, c, zs, hcs, _, hl, hm, hz, _, hcell, hwz⟩
    · simp [Value.cells] at hcs
      obtain ⟨rfl, rfl, rfl⟩ := hcs
      exact inCode_nil W
    · simp [Value.cells] at hcs
      obtain ⟨rfl, rfl, rfl⟩ := hcs
      exact inCode_of hl hm (by simpa using hz) hcell hwz
  obtain ⟨a1, len1, cap1, e1⟩ := okWide_slice Try.underlying22 (hval 1 22 v1 rfl rfl)
  subst e1
  have w1 : InCode W a1 len1 cap1 := by
    obtain ⟨fuel, hf⟩ := h1
    rcases open_ints Try.underlying22 Try.underlying5 (by kernel_rfl) hf with ⟨hcs, _⟩ | ⟨x, l, c, zs, hcs, _, hl, hm, hz, _, hcell, hwz⟩
    · simp [Value.cells] at hcs
      obtain ⟨rfl, rfl, rfl⟩ := hcs
      exact inCode_nil W
    · simp [Value.cells] at hcs
      obtain ⟨rfl, rfl, rfl⟩ := hcs
      exact inCode_of hl hm (by simpa using hz) hcell hwz
  clear hA0 hval0
  refine (walk a0 len0 cap0 a1 len1 cap1 W w0 w1).mono fun e W' ⟨he, bel⟩ => ?_
  subst he
  exact ⟨_, rfl, _, _, _, [], _, [], hW', trodAll_mk1 (shut_bool Try.underlying4 _), (trodAll_cons_mk (Below.trod laidOut (by kernel_rfl) (of_decide_eq_true (by kernel_rfl)) k0 bel lt0) (trodAll_cons_mk (Below.trod laidOut (by kernel_rfl) (of_decide_eq_true (by kernel_rfl)) k1 bel lt1) trodAll_mk0)), rfl, bel.frame _, fun h => by cases h⟩

theorem over : Rows.fnTextOkRow.holds Try.pinned (OpenSpec.ofChange Rows.fnTextOkSpec) :=
  OpenClaim.holds_of_wide 8 Try.f8 rfl rfl rfl rfl rfl rfl rfl ⟨rfl, rfl, rfl, rfl, rfl⟩ rfl rfl rfl rfl rfl (by kernel_rfl) Try.func8 (by kernel_rfl)
    (of_decide_eq_true (by kernel_rfl)) (by unfold Func.isWrapper; first | (rw [if_pos (by decide +kernel)]; kernel_rfl) | (rw [if_neg (by decide +kernel)]; exact ⟨rfl, rfl⟩))
    (fun os started H enc _ => lifted os started H enc)
end Go.Proofs.Ytnpcohbbjfjjaaa.fnTextOk
namespace Go.Proofs.Ytnpcohbbjfjjaaa

/-- The given statement. -/
theorem fnTextOk_proved : Rows.FnTextOkSaid := fnTextOk.over
#print axioms fnTextOk_proved
end Go.Proofs.Ytnpcohbbjfjjaaa
