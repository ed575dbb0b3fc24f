/-
  The contracts of the model's draws of words and lines: l3Some, l3Bent, l12Many, DrawTokLine, DrawTokText, DrawTokOk, DrawTokKind, DrawTokSame, for all codes.
-/
import Derived.Test.YtfepifcpcfoaaaaDoorRd
import Derived.Test.YtfepifcpcfoaaaaDoorSpecToks
namespace Go.Proofs.YtfepifcpcfoaaaaDoor
open Go.RowKit

def someW : List ByteArray := [⟨#[108, 101, 116]⟩, ⟨#[115, 97, 121]⟩, ⟨#[120]⟩, ⟨#[121]⟩, ⟨#[97, 115]⟩, ⟨#[105, 110, 116]⟩, ⟨#[49]⟩, ⟨#[50, 48]⟩, ⟨#[48]⟩, ⟨#[43]⟩, ⟨#[42]⟩, ⟨#[40]⟩, ⟨#[41]⟩, ⟨#[58]⟩, ⟨#[61]⟩, ⟨#[60]⟩, ⟨#[45]⟩, ⟨#[49, 48, 48, 48, 48, 48, 48]⟩]
def bentW : List ByteArray := [⟨#[]⟩, ⟨#[88]⟩, ⟨#[48, 49]⟩, ⟨#[97, 98, 99, 100, 101, 102, 103, 104, 105]⟩, ⟨#[49, 48, 48, 48, 48, 48, 49]⟩, ⟨#[43, 45]⟩, ⟨#[63]⟩, ⟨#[97, 49]⟩, ⟨#[45, 49]⟩]
def aheadW : List ByteArray := [⟨#[]⟩, ⟨#[]⟩, ⟨#[32]⟩]
def sepW : List ByteArray := [⟨#[32]⟩, ⟨#[32]⟩, ⟨#[32, 32]⟩, ⟨#[]⟩]
theorem someW_ok : ∀ s ∈ someW, kindL (L s) ≠ 0 ∧ 1 ≤ s.size ∧ s.size ≤ 7 := by
  unfold someW
  simp only [List.mem_cons, List.not_mem_nil, or_false, forall_eq_or_imp, forall_eq]
  decide
theorem bentW_ok : ∀ s ∈ bentW, s.size ≤ 9 := by decide
theorem aheadW_ok : ∀ s ∈ aheadW, s.size ≤ 1 := by decide
theorem sepW_ok : ∀ s ∈ sepW, s.size ≤ 2 := by decide

/-- A text was drawn by a reader, after at most k readings. -/
def Drew (ok : ByteArray → Prop) (k : Nat) (w : World) (B g : Nat) (A : Option Addr) (len cap p : Nat) (e : Ending) (w' : World) : Prop :=
  ∃ s : ByteArray, ok s ∧ e = .returned (.string s) ∧ Read w B g A len cap p k w'

set_option maxRecDepth 100000 in
set_option maxHeartbeats 1000000 in
theorem l3Some_any (B g : Nat) (A : Option Addr) (len cap p : Nat) (w : World) (hr : Rd w B g A len cap p) (hp : p ≤ 2 ^ 20) :
    Calls Tryd.prog 37 #[.pointer (some ⟨g, 0, none⟩)] w (Drew (fun s => kindL (L s) ≠ 0 ∧ 1 ≤ s.size ∧ s.size ≤ 7) 1 w B g A len cap p) := by
  go_enter Tryd.func37, Tryd.ntmps37
  go_wp2_with fail
  refine (of_any B g A len cap p w.heap.size 18 18 someW _ (hr.alloc _) (by omega) rfl (by omega) (by omega) (by simp) (by have := hr.lt; omega) ?_).mono ?_
  · intro j hj
    rw [cell_made]
    match j, hj with
    | 0, _ => rfl
    | 1, _ => rfl
    | 2, _ => rfl
    | 3, _ => rfl
    | 4, _ => rfl
    | 5, _ => rfl
    | 6, _ => rfl
    | 7, _ => rfl
    | 8, _ => rfl
    | 9, _ => rfl
    | 10, _ => rfl
    | 11, _ => rfl
    | 12, _ => rfl
    | 13, _ => rfl
    | 14, _ => rfl
    | 15, _ => rfl
    | 16, _ => rfl
    | 17, _ => rfl
    | i + 18, h => exact absurd h (by show ¬ i + 18 < 18; omega)
  · rintro e w2 ⟨u, hu, rfl, q2, hq3, hq4, hrd2, hgr2⟩
    obtain ⟨z, hz, rfl⟩ := List.mem_map.1 hu
    have HZ := Lib.hid (someW_ok z hz)
    clear hz hu
    unfold strV
    go_wp2_with fail
    go_ret
    exact ⟨z, HZ.out, rfl, q2, hq3, hq4, hrd2, grown_trans (grown_alloc (grown_refl w (some g)) _) hgr2⟩

set_option maxRecDepth 100000 in
set_option maxHeartbeats 1000000 in
theorem l3Bent_any (B g : Nat) (A : Option Addr) (len cap p : Nat) (w : World) (hr : Rd w B g A len cap p) (hp : p ≤ 2 ^ 19) :
    Calls Tryd.prog 32 #[.pointer (some ⟨g, 0, none⟩)] w (Drew (fun s => s.size ≤ 9) 2 w B g A len cap p) := by
  have HP := Lib.hid (pick_any B g A len cap p 8 w hr (by omega) (by omega) (by omega))
  have hbg := hr.2.1
  clear hr
  go_enter Tryd.func32, Tryd.ntmps32
  go_wp2_with fail
  refine HP.out.mono ?_
  rintro e w1 ⟨v, hv, rfl, q1, hq1, hq2, hrd1, hgr1⟩
  by_cases h0 : v = 0
  · subst h0
    go_wp2_with fail
    refine (of_any B g A len cap q1 w1.heap.size 9 9 bentW _ (hrd1.alloc _) (by omega) rfl (by omega) (by omega) (by simp) (by have := hrd1.lt; omega) ?_).mono ?_
    · intro j hj
      rw [cell_made]
      match j, hj with
      | 0, _ => rfl
      | 1, _ => rfl
      | 2, _ => rfl
      | 3, _ => rfl
      | 4, _ => rfl
      | 5, _ => rfl
      | 6, _ => rfl
      | 7, _ => rfl
      | 8, _ => rfl
    · rintro e w2 ⟨u, hu, rfl, q2, hq3, hq4, hrd2, hgr2⟩
      obtain ⟨z, hz, rfl⟩ := List.mem_map.1 hu
      have HZ := Lib.hid (bentW_ok z hz)
      clear hz hu
      unfold strV
      go_wp2_with fail
      go_ret
      exact ⟨z, HZ.out, rfl, q2, by omega, by omega, hrd2, grown_trans hgr1 (grown_trans (grown_alloc (grown_refl w1 (some g)) _) hgr2)⟩
  · have p0 : ((v : Int) == 0) = false := by rw [beq_eq_false_iff_ne]; omega
    have HS := Lib.hid (l3Some_any B g A len cap q1 w1 hrd1 (by omega))
    go_wp2_with fail
    refine HS.out.mono ?_
    rintro e w2 ⟨z, hz, rfl, q2, hq3, hq4, hrd2, hgr2⟩
    go_wp2_with fail
    go_ret
    exact ⟨z, by omega, rfl, q2, by omega, by omega, hrd2, grown_trans hgr1 hgr2⟩
set_option maxHeartbeats 1000000 in
theorem l12Many_any (s : ByteArray) (n : Nat) (w : World) (hs : s.size ≤ 4) (hn : n ≤ 100) :
    Calls Tryd.prog 33 #[.string s, .int .i64 (n : Int)] w fun e w' => ∃ t : ByteArray, t.size ≤ s.size * n ∧ e = .returned (.string t) ∧ w = w' := by
  generalize hsz : s.size = k at *
  go_enter Tryd.func33, Tryd.ntmps33
  go_wp2
  go_loop [0, 1, 5] (fun a b c => ∃ (s' o : ByteArray) (m q : Nat), a = .string s' ∧ b = .int .i64 (m : Int) ∧ c = .string o ∧ s'.size = q ∧ o.size + q * m ≤ k * n ∧ q * m ≤ 400 ∧ m ≤ 100 ∧ (m = 0 ∨ q ≤ 400)) (fun _ b _ => (intOf b).toNat)
  case atStart => exact ⟨s, ByteArray.empty, n, k, rfl, rfl, rfl, hsz, by simp, Nat.le_trans (Nat.mul_le_mul hs hn) (by omega), hn, .inr (by omega)⟩
  case round =>
    obtain ⟨s', o, m, q, rfl, rfl, rfl, hq, ho, hqm, hm, hb⟩ := hrel
    have hkn : k * n ≤ 400 := Nat.le_trans (Nat.mul_le_mul hs hn) (by omega)
    by_cases h0 : m = 0
    · subst h0
      have HO := Lib.hid (show o.size ≤ k * n by omega)
      clear ho hqm hb
      go_wp2
      go_ret
      exact ⟨o, HO.out, rfl, rfl⟩
    · have hq4 : q ≤ 400 := by rcases hb with h | h; exact absurd h h0; exact h
      have p0 : (0 : Int) < (m : Int) := by omega
      have hodd : m = 2 * (m / 2) + m % 2 := by omega
      have HM := Lib.hid (show q * m = (q + q) * (m / 2) + q * (m % 2) by
        conv => lhs; rw [hodd, Nat.mul_add, ← Nat.mul_assoc]
        rw [show q * 2 = q + q by omega])
      have HQ := Lib.hid hq
      have hss : s'.size ≤ 400 := by omega
      have hos : o.size ≤ 400 := by
        have : 0 ≤ q * m := Nat.zero_le _
        omega
      have HO := Lib.hid ho
      have HQM := Lib.hid hqm
      have hnext : m / 2 = 0 ∨ q + q ≤ 400 := by
        by_cases h2 : m / 2 = 0
        · exact .inl h2
        · right
          have h3 : (q + q) * 1 ≤ (q + q) * (m / 2) := Nat.mul_le_mul_left _ (by omega)
          have := HM.out
          omega
      have HNX := Lib.hid hnext
      clear hodd ho hqm hb hnext hq
      by_cases h1 : m % 2 = 1
      · have p1 : ((m : Int) % 2 == 1) = true := by rw [beq_iff_eq]; omega
        go_wp2
        go_round
        case rel => exact ⟨s' ++ s', o ++ s', m / 2, q + q, rfl, by go_num, rfl, by rw [ByteArray.size_append, HQ.out], by have h5 := HM.out; have := HO.out; have := HQ.out; rw [h1] at h5; rw [ByteArray.size_append]; omega, by have := HM.out; have := HQM.out; omega, by omega, HNX.out⟩
        case measure => simp [intOf]; omega
      · have p1 : ((m : Int) % 2 == 1) = false := by rw [beq_eq_false_iff_ne]; omega
        go_wp2
        go_round
        case rel => exact ⟨s' ++ s', o, m / 2, q + q, rfl, by go_num, rfl, by rw [ByteArray.size_append, HQ.out], by have := HM.out; have := HO.out; omega, by have := HM.out; have := HQM.out; omega, by omega, HNX.out⟩
        case measure => simp [intOf]; omega
/-- A text was drawn. -/
def DrawnStr (most : Nat) (w : World) (e : Ending) (w' : World) : Prop := ∃ s : ByteArray, s.size ≤ most ∧ e = .returned (.string s) ∧ Below w.heap.size w w'
theorem drawTokKind_any (A : Option Addr) (len cap : Nat) (w : World) (h : InCode w A len cap) :
    Calls Tryd.prog 22 #[.slice A len cap] w (DrawnStr 9 w) := by
  have HO := Lib.hid (open_any A len cap w h)
  clear h
  go_enter Tryd.func22, Tryd.ntmps22
  go_wp2_with fail
  refine HO.out.mono ?_
  rintro e w1 ⟨A', len', cap', rfl, hrd, hb1⟩
  go_wp2_with fail
  refine (l3Bent_any _ _ _ _ _ _ w1 hrd (by omega)).mono ?_
  rintro e w2 ⟨z, hz1, rfl, hrd2⟩
  go_wp2_with fail
  go_ret
  exact ⟨z, hz1, rfl, hb1.trans (hrd2.below (Nat.le_refl _) hb1.size)⟩
theorem drawTokOk_any (A : Option Addr) (len cap : Nat) (w : World) (h : InCode w A len cap) :
    Calls Tryd.prog 21 #[.slice A len cap] w fun e w' => ∃ (k : Nat) (s : ByteArray), k < 5 ∧ s.size ≤ 9 ∧ e = .returned (.tuple #[.int .i64 (k : Int), .string s]) ∧ Below w.heap.size w w' := by
  have HO := Lib.hid (open_any A len cap w h)
  clear h
  go_enter Tryd.func21, Tryd.ntmps21
  go_wp2_with fail
  refine HO.out.mono ?_
  rintro e w1 ⟨A', len', cap', rfl, hrd, hb1⟩
  go_wp2_with fail
  refine (l3Bent_any _ _ _ _ _ _ w1 hrd (by omega)).mono ?_
  rintro e w2 ⟨z, hz1, rfl, q2, hq1, hq2, hrd2, hgr2⟩
  have HP := Lib.hid (pick_any _ _ _ _ _ q2 5 w2 hrd2 (by omega) (by omega) (by omega))
  go_wp2_with fail
  refine HP.out.mono ?_
  rintro e w3 ⟨v, hv, rfl, q3, hq3, hq4, hrd3, hgr3⟩
  go_wp2_with fail
  go_ret2
  exact ⟨v, z, hv, hz1, rfl, hb1.trans (grown_below (grown_trans hgr2 hgr3) (Nat.le_refl _) hb1.size)⟩
set_option maxRecDepth 100000 in
set_option maxHeartbeats 2000000 in
theorem drawTokLine_any (A : Option Addr) (len cap : Nat) (w : World) (h : InCode w A len cap) :
    Calls Tryd.prog 11 #[.slice A len cap] w (DrawnStr 200 w) := by
  have HO := Lib.hid (open_any A len cap w h)
  clear h
  go_enter Tryd.func11, Tryd.ntmps11
  go_wp2_with fail
  refine HO.out.mono ?_
  rintro e w1 ⟨A', len', cap', rfl, hrd, hb1⟩
  clear HO
  have hB := hb1.size
  generalize hg : w.heap.size = B at *
  go_wp2_with fail
  refine (of_any B B A' len' cap' 0 w1.heap.size 3 3 aheadW _ (hrd.alloc _) (by omega) rfl (by omega) (by omega) (by simp) (by have := hrd.lt; omega) ?_).mono ?_
  · intro j hj
    rw [cell_made]
    match j, hj with
    | 0, _ => rfl
    | 1, _ => rfl
    | 2, _ => rfl
  · rintro e w2 ⟨u, hu, rfl, q2, hq3, hq4, hrd2, hgr2⟩
    obtain ⟨z, hz, rfl⟩ := List.mem_map.1 hu
    have hz1 := aheadW_ok z hz
    have hg2 : w1.grownBy w2 (some B) := grown_trans (grown_alloc (grown_refl w1 (some B)) _) hgr2
    clear hz hu hgr2
    unfold strV
    have HP := Lib.hid (pick_any B B A' len' cap' q2 8 w2 hrd2 (by omega) (by omega) (by omega))
    go_wp2_with fail
    refine HP.out.mono ?_
    rintro e w3 ⟨v, hv, rfl, q3, hq5, hq6, hrd3, hgr3⟩
    have hg3 := grown_trans hg2 hgr3
    clear HP hrd hrd2 hgr3
    go_wp2_with fail
    go_loopw [4, 5] (fun o i wr => ∃ (out : ByteArray) (m q : Nat), o = .string out ∧ i = .int .i64 (m : Int) ∧ m ≤ 7 ∧ out.size + 11 * m ≤ 78 ∧ q + 3 * m ≤ 30 ∧ Rd wr B B A' len' cap' q ∧ w1.grownBy wr (some B)) (fun _ i _ => (intOf i).toNat)
    case atStart => exact ⟨z, v, q3, rfl, rfl, by omega, by omega, by omega, hrd3, hg3⟩
    case round =>
      clear hg3 hrd3 hg2
      obtain ⟨out, m, q, rfl, rfl, hm, hos, hq, hrd, hgr⟩ := hrel
      by_cases h0 : m = 0
      · subst h0
        have HP := Lib.hid (pick_any B B A' len' cap' q 40 wr hrd (by omega) (by omega) (by omega))
        go_wp2_with fail
        refine HP.out.mono ?_
        rintro e w4 ⟨v4, hv4, rfl, q4, hq7, hq8, hrd4, hgr4⟩
        have hg4 := grown_trans hgr hgr4
        clear HP
        by_cases h4 : v4 = 0
        · subst h4
          have HP := Lib.hid (pick_any B B A' len' cap' q4 2 w4 hrd4 (by omega) (by omega) (by omega))
          go_wp2_with fail
          refine HP.out.mono ?_
          rintro e w5 ⟨v5, hv5, rfl, q5, hq9, hq10, hrd5, hgr5⟩
          have hg5 := grown_trans hg4 hgr5
          have HMa := Lib.hid (l12Many_any ⟨#[120, 32]⟩ (60 + v5) w5 (by show 2 ≤ 4; omega) (by omega))
          rw [show ((60 + v5 : Nat) : Int) = 60 + (v5 : Int) by omega] at HMa
          clear HP
          go_wp2_with fail
          refine HMa.out.mono ?_
          rintro e w' ⟨t, ht, rfl, rfl⟩
          have HT := Lib.hid (show t.size ≤ 200 by have h2 : (ByteArray.mk #[120, 32]).size = 2 := rfl; rw [h2] at ht; omega)
          clear ht HMa
          go_wp2_with fail
          go_ret
          exact ⟨t, HT.out, rfl, by rw [hg]; exact hb1.trans (grown_below hg5 (Nat.le_refl _) hB)⟩
        · have p4 : ((v4 : Int) == 0) = false := by rw [beq_eq_false_iff_ne]; omega
          go_wp2_with fail
          go_ret
          exact ⟨out, by omega, rfl, by rw [hg]; exact hb1.trans (grown_below hg4 (Nat.le_refl _) hB)⟩
      · have p0 : (0 : Int) < (m : Int) := by omega
        have HBe := Lib.hid (l3Bent_any B B A' len' cap' q wr hrd (by omega))
        go_wp2_with fail
        refine HBe.out.mono ?_
        rintro e w4 ⟨t, ht, rfl, q4, hq7, hq8, hrd4, hgr4⟩
        have hg4 := grown_trans hgr hgr4
        clear HBe
        go_wp2_with fail
        refine (of_any B B A' len' cap' q4 w4.heap.size 4 4 sepW _ (hrd4.alloc _) (by omega) rfl (by omega) (by omega) (by simp) (by have := hrd4.lt; omega) ?_).mono ?_
        · intro j hj
          rw [cell_made]
          match j, hj with
          | 0, _ => rfl
          | 1, _ => rfl
          | 2, _ => rfl
          | 3, _ => rfl
        · rintro e w5 ⟨u, hu, rfl, q5, hq9, hq10, hrd5, hgr5⟩
          obtain ⟨z5, hz5, rfl⟩ := List.mem_map.1 hu
          have hz6 := sepW_ok z5 hz5
          have hg5 : w1.grownBy w5 (some B) := grown_trans hg4 (grown_trans (grown_alloc (grown_refl w4 (some B)) _) hgr5)
          clear hz5 hu hgr5
          unfold strV
          go_wp2_with fail
          go_roundw
          case rel => exact ⟨out ++ t ++ z5, m - 1, q5, rfl, by go_num, by omega, by rw [ByteArray.size_append, ByteArray.size_append]; omega, by omega, hrd5, hg5⟩
          case measure => simp [intOf]; omega

theorem toks_length (l : List UInt8) : ∀ col ts, toks col l = some ts → ts.length ≤ l.length := by
  induction hn : l.length using Nat.strongRecOn generalizing l with
  | ind n ih =>
    intro col ts h
    rcases toks_step l col ts h with ⟨rfl, _⟩ | ⟨m, w, r, ts', h1, rfl, h3, h4, h5⟩
    · simp
    · have hw : 1 ≤ w.length := by
        have := h5.ne
        cases w with
        | nil => exact absurd rfl this
        | cons c t => simp
      have hl : l.length = m + (w.length + r.length) := by rw [h1]; simp
      have := ih r.length (by omega) r rfl _ _ h3
      simp
      omega
theorem toksR_length (s : ByteArray) : ((toksR s).getD []).length ≤ 120 := by
  unfold toksR
  split
  · rename_i h
    cases ht : toks 0 (L s) with
    | none => simp
    | some ts =>
      have := toks_length _ _ _ ht
      rw [L_length] at this
      simp
      omega
  · simp
/-- Two lists of words were drawn, each of its own. -/
def DrawnToks (w : World) (e : Ending) (w' : World) : Prop :=
  ∃ (A B : Option Addr) (c d : Nat) (xs ys : List Tv), e = .returned (.tuple #[.slice A xs.length c, .slice B ys.length d]) ∧ xs.length ≤ 120 ∧ ys.length ≤ 120 ∧ xs.length ≤ c ∧ SlIs w' A (rowT xs) ∧ SlIs w' B (rowT ys) ∧ Below w.heap.size w w'
set_option maxRecDepth 100000 in
set_option maxHeartbeats 2000000 in
theorem drawTokSame_any (A : Option Addr) (len cap : Nat) (w : World) (h : InCode w A len cap) :
    Calls Tryd.prog 14 #[.slice A len cap] w (DrawnToks w) := by
  have HD := Lib.hid (drawTokLine_any A len cap w h)
  have HI := Lib.hid h
  clear h
  go_enter Tryd.func14, Tryd.ntmps14
  go_wp2_with fail
  refine HD.out.mono ?_
  rintro e w1 ⟨s, hs, rfl, hb1⟩
  go_wp2_with fail
  refine (specTokLine_any s w1 (by omega)).mono ?_
  rintro e w2 ⟨v, rfl, hv, hb2'⟩
  have hb2 := hb1.trans (hb2'.mono hb1.size)
  have hx := toksR_length s
  have hv' : w2.ownsRow w1.heap.size 31 3 v (((toksR s).getD []).map tkV).length (rowT (((toksR s).getD []).map tkV)) := by rw [List.length_map]; exact hv
  rw [← List.length_map (f := tkV)] at hx
  generalize ((toksR s).getD []).map tkV = xs at *
  generalize (toksR s).isSome = ok at *
  obtain ⟨A1, c1, rfl, hc1⟩ := own_sliceK hv'
  have HX := Lib.hid (SlIs.ownK hv')
  clear hv hv' HD
  have HD := Lib.hid (drawTokLine_any A len cap w2 (HI.out.below hb2))
  go_wp2_with fail
  refine HD.out.mono ?_
  rintro e w3 ⟨s', hs', rfl, hb3'⟩
  have hb3 := hb2.trans (hb3'.mono hb2.size)
  go_wp2_with fail
  refine (specTokLine_any s' w3 (by omega)).mono ?_
  rintro e w4 ⟨v, rfl, hv, hb4'⟩
  have hb4 := hb3.trans (hb4'.mono hb3.size)
  have hb24 := hb3'.trans (hb4'.mono hb3'.size)
  have hy := toksR_length s'
  have hv' : w4.ownsRow w3.heap.size 31 3 v (((toksR s').getD []).map tkV).length (rowT (((toksR s').getD []).map tkV)) := by rw [List.length_map]; exact hv
  rw [← List.length_map (f := tkV)] at hy
  generalize ((toksR s').getD []).map tkV = ys at *
  generalize (toksR s').isSome = ok' at *
  obtain ⟨B1, d1, rfl, hd1⟩ := own_sliceK hv'
  have HY := Lib.hid (SlIs.ownK hv')
  have HO := Lib.hid hv'
  have HXW := Lib.hid (HX.out.below hb24)
  have HX2 := HX
  clear hv hv' HD HX
  by_cases hl : 0 < len
  · obtain ⟨_, _, hcode⟩ := HI.out
    obtain ⟨hh, off, rfl, hlt, hc⟩ : ∃ h off, A = some ⟨h, off, none⟩ ∧ h < w.heap.size ∧ ∀ j, j < len → ∃ z : Int, 0 ≤ z ∧ z ≤ 255 ∧ w.cell? ⟨h, off + j, none⟩ = some (.int .u8 z) := by
      rcases hcode with h0 | h0
      · omega
      · exact h0
    obtain ⟨z, z0, z1, hz⟩ := hc 0 hl
    have hz4 := (hb4.cell (p := ⟨hh, off + 0, none⟩) hlt).trans hz
    rw [Nat.add_zero] at hz4
    have p0 : (0 : Int) < (len : Int) := by omega
    clear hc hcode hz
    by_cases h1 : z % 2 = 1
    · have p1 : (z % 2 == 1) = true := by rw [beq_iff_eq]; exact h1
      cases ys with
      | cons y ys =>
        obtain ⟨ya, yb, yc⟩ := y
        have p2 : (0 : Int) < ((((ya, yb, yc) :: ys : List Tv)).length : Int) := by rw [List.length_cons]; omega
        obtain ⟨g, off', e', hg, c0, c1', c2⟩ := HY.out.tok (k := 0) (by simp)
        subst e'
        obtain ⟨g', cap', e', hbg, hgl⟩ := HO.out.form (by simp)
        injection e' with e1 e2 e3
        injection e1 with e1
        injection e1 with e1 e4
        subst e1 e4
        have f2 := HO.out.frozenAt 2
        rw [Nat.zero_mul, Nat.zero_add] at c0 c1' c2
        simp only [List.getElem_cons_zero] at c0 c1' c2
        have HS := Lib.hid (show ∀ v : Int, SlIs (w4.setCell ⟨g, 2, none⟩ (.int .i64 v)) (some ⟨g, 0, none⟩) (rowT ((ya, yb, v) :: ys)) from fun v => SlIs.ownK (HO.out.stored 2 (.int .i64 v)).1)
        have HXS := Lib.hid (show ∀ v : Int, SlIs (w4.setCell ⟨g, 2, none⟩ (.int .i64 v)) A1 (rowT xs) from fun v => HX2.out.below (hb24.setCell (p := ⟨g, 2, none⟩) (Nat.le_trans hb3'.size hbg) _))
        have HBS := Lib.hid (show ∀ v : Int, Below w.heap.size w (w4.setCell ⟨g, 2, none⟩ (.int .i64 v)) from fun v => hb4.setCell (p := ⟨g, 2, none⟩) (Nat.le_trans hb3.size hbg) _)
        generalize hyl : ((ya, yb, yc) :: ys : List Tv).length = yl at *
        have HYL := Lib.hid (show ∀ v : Int, ((ya, yb, v) :: ys : List Tv).length = yl from fun v => by rw [← hyl]; rfl)
        clear HO HY hyl
        go_wp2_with fail
        go_ret2
        exact ⟨A1, _, c1, _, xs, (ya, yb, _) :: ys, by rw [HYL.out]; rfl, hx, by rw [HYL.out]; exact hy, hc1, HXS.out _, HS.out _, HBS.out _⟩
      | nil =>
        have p2 : decide ((0 : Int) < ((([] : List Tv)).length : Int)) = false := by simp
        go_wp2_with fail
        go_ret2
        exact ⟨A1, B1, c1, d1, xs, [], rfl, hx, hy, hc1, HXW.out, HY.out, hb4⟩
    · have p1 : (z % 2 == 1) = false := by rw [beq_eq_false_iff_ne]; exact h1
      go_wp2_with fail
      go_ret2
      exact ⟨A1, B1, c1, d1, xs, ys, rfl, hx, hy, hc1, HXW.out, HY.out, hb4⟩
  · have p0 : decide ((0 : Int) < (len : Int)) = false := by rw [decide_eq_false_iff_not]; omega
    go_wp2_with fail
    go_ret2
    exact ⟨A1, B1, c1, d1, xs, ys, rfl, hx, hy, hc1, HXW.out, HY.out, hb4⟩
end Go.Proofs.YtfepifcpcfoaaaaDoor
