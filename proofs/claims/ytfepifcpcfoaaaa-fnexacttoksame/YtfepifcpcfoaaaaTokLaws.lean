/-
  The contracts of the helpers of the exact laws that copy lists of words and tell how much they hold.
-/
import Derived.Test.YtfepifcpcfoaaaaToks
namespace Go.Proofs.Ytfepifcpcfoaaaa
open Go.RowKit

/-- A slice of words that came in. -/
def IsToks (w : World) (a : Option Addr) (len : Nat) (xs : List Tv) : Prop := xs.length = len ∧ len ≤ maxLen ∧ SlIs w a (rowT xs) ∧ ∀ x ∈ xs, x.2.1.size ≤ maxLen
theorem isToks_nil (w : World) : IsToks w none 0 [] := ⟨rfl, by simp [maxLen], .inl rfl, by simp⟩
/-- What the texts hold, and one more for each word. -/
def totT (xs : List Tv) : Nat := (xs.map (fun x => x.2.1.size + 1)).sum
theorem totT_take_succ (xs : List Tv) (k : Nat) (h : k < xs.length) : totT (xs.take (k + 1)) = totT (xs.take k) + (xs[k].2.1.size + 1) := by
  unfold totT; rw [List.take_succ_eq_append_getElem h, List.map_append, List.sum_append]; simp
theorem length_le_totT (xs : List Tv) : xs.length ≤ totT xs := by
  unfold totT
  induction xs with
  | nil => simp
  | cons s ss ih => simp; omega
def LeftT (xs : List Tv) (left : Int) (w : World) (e : Ending) (w' : World) : Prop :=
  ∃ r : Int, e = .returned (.int .i64 r) ∧ (0 ≤ r → (totT xs : Int) ≤ left) ∧ r ≤ left ∧ Below w.heap.size w w'

set_option maxHeartbeats 400000 in
theorem toTok_any (a c : Int) (s : ByteArray) (w : World) :
    Calls Try.prog 22 #[.agg #[.int .i64 a, .string s, .int .i64 c]] w fun e w' => e = .returned (.agg #[.int .i64 a, .string s, .int .i64 c]) ∧ Below w.heap.size w w' := by
  go_enter Try.func22, Try.ntmps22
  go_wp2
  exact bodyPost_ret (v := .agg #[.int .i64 a, .string s, .int .i64 c]) (by simp [results, Try.results22, go_sem]) rfl ⟨rfl, ((((Below.refl _ w).alloc (Nat.le_refl _) _).alloc (by simp) _).alloc (by simp; omega) _)⟩
def zeroT : Tv := (0, ByteArray.empty, 0)
theorem made_row (n : Nat) : (madeCells (tvC zeroT).toArray (n * 3)).toList = rowT (List.replicate n zeroT) := by
  apply List.ext_getElem?
  intro j
  have hl := rowT_length (List.replicate n zeroT)
  rw [List.length_replicate] at hl
  by_cases hj : j < n * 3
  · have h1 := rowT_get (List.replicate n zeroT) (j / 3) (by rw [List.length_replicate]; omega) (j % 3) (by omega)
    rw [show j / 3 * 3 + j % 3 = j by omega, List.getElem_replicate] at h1
    rw [h1]
    have h3 : j % 3 = 0 ∨ j % 3 = 1 ∨ j % 3 = 2 := by omega
    simp only [madeCells, Array.getElem?_toList, Array.getElem?_map]
    rw [Array.getElem?_range, if_pos hj]
    rcases h3 with h | h | h <;> simp [h, tvC, zeroT]
  · rw [List.getElem?_eq_none (by rw [Array.length_toList, size_madeCells]; omega), List.getElem?_eq_none (by rw [hl]; omega)]
theorem own_madeT (w : World) (n : Nat) (hn : n ≤ maxLen) (t : TypeId) : (w.alloc (.cells (madeCells (tvC zeroT).toArray (n * 3)) t)).ownsRow w.heap.size t 3 (.slice (some ⟨w.heap.size, 0, none⟩) n n) n (rowT (List.replicate n zeroT)) :=
  ⟨by rw [rowT_length, List.length_replicate], .inr ⟨w.heap.size, n, _, rfl, Nat.le_refl _, World.alloc_heap_new w _, Nat.le_refl _, hn, by rw [size_madeCells], by rw [made_row, List.take_of_length_le (by rw [rowT_length, List.length_replicate]; exact Nat.le_refl _)]⟩⟩
theorem run_makeT (n : Nat) (hn : n ≤ 2 ^ 40) (w : World) : (Instr.makeSlice 23 (.int .i64 (n : Int)) (.int .i64 (n : Int))).run Try.prog w = .ok (.slice (some ⟨w.heap.size, 0, none⟩) n n) (w.alloc (.cells (madeCells (tvC zeroT).toArray (n * 3)) 28)) := by
  obtain ⟨i, hi, hzz⟩ := Option.map_eq_some_iff.1 infoTok
  simp only [Prod.mk.injEq] at hzz
  obtain ⟨hz, hs, hb⟩ := hzz
  have hr := run_make (P := Try.prog) w 23 28 i _ Try.underlying23 hi hz .i64 .i64 n n (by omega) (Int.le_refl _) (by rw [hb]; omega) (by omega)
  rw [hs] at hr
  simp only [Int.toNat_natCast] at hr
  exact hr
set_option maxRecDepth 100000 in
set_option maxHeartbeats 1000000 in
/-- A copy of one's own. -/
theorem toTokS_any (A : Option Addr) (c : Nat) (xs : List Tv) (w : World) (hl : xs.length ≤ 2 ^ 40) (hA : SlIs w A (rowT xs)) :
    Calls Try.prog 15 #[.slice A xs.length c] w fun e w' => ∃ v, e = .returned v ∧ w'.ownsRow w.heap.size 28 3 v xs.length (rowT xs) ∧ Below w.heap.size w w' := by
  have hmk := run_makeT xs.length hl
  go_enter Try.func15, Try.ntmps15
  go_wp2
  go_loopw [4] (fun i wr => ∃ k : Nat, k ≤ xs.length ∧ i = .int .i64 k ∧ wr.ownsRow w.heap.size 28 3 (.slice (some ⟨w.heap.size, 0, none⟩) xs.length xs.length) xs.length (rowT (xs.take k ++ List.replicate (xs.length - k) zeroT)) ∧ Below w.heap.size w wr)
    (fun i _ => xs.length - (intOf i).toNat)
  case atStart => exact ⟨0, Nat.zero_le _, rfl, by simpa using own_madeT w xs.length (by unfold maxLen; omega) 28, (Below.refl _ w).alloc (Nat.le_refl _) _⟩
  case round =>
    obtain ⟨k, hk, rfl, hrow, hB⟩ := hrel
    clear hmk
    by_cases hlt : k < xs.length
    · obtain ⟨g, off, rfl, hg, h0, h1, h2⟩ := (hA.below hB).tok hlt
      have hyl : (xs.take k ++ List.replicate (xs.length - k) zeroT).length = xs.length := by simp; omega
      obtain ⟨g', off', e', hg', c0, c1, c2⟩ := (SlIs.ownK hrow).tok (k := k) (by rw [hyl]; exact hlt)
      injection e' with e'
      injection e' with e1 e2
      subst e1 e2
      have hx : (k : Int) < (xs.length : Int) := by omega
      have HX := Lib.hid (show (xs.take k ++ List.replicate (xs.length - k) zeroT).set k xs[k] = xs.take (k + 1) ++ List.replicate (xs.length - (k + 1)) zeroT by
        obtain ⟨m, hm⟩ : ∃ m, xs.length - k = m + 1 := ⟨xs.length - k - 1, by omega⟩
        rw [List.set_append_right _ _ (by simp; omega), show k - (xs.take k).length = 0 by simp; omega, hm, List.replicate_succ, List.set_cons_zero, List.take_succ_eq_append_getElem hlt, List.append_assoc, show xs.length - (k + 1) = m by omega]
        rfl)
      rw [Nat.zero_add] at c0 c1 c2
      have HR := Lib.hid hrow
      have HL := Lib.hid hyl
      have f0 := hrow.frozenAt (k * 3)
      have f1 := hrow.frozenAt (k * 3 + 1)
      have f2 := hrow.frozenAt (k * 3 + 2)
      generalize (xs.take k ++ List.replicate (xs.length - k) zeroT)[k]'(by rw [hyl]; exact hlt) = z at *
      generalize xs[k] = t at *
      obtain ⟨ta, ts, tc⟩ := t
      simp only at h0 h1 h2
      clear hrow hyl
      go_wp2_with fail
      refine (toTok_any ta tc ts _).mono ?_
      rintro e w2 ⟨rfl, hb2⟩
      have d0 := (hb2.cell (p := ⟨w.heap.size, k * 3, none⟩) hg').trans c0
      have d1 := (hb2.cell (p := ⟨w.heap.size, k * 3 + 1, none⟩) hg').trans c1
      have d2 := (hb2.cell (p := ⟨w.heap.size, k * 3 + 2, none⟩) hg').trans c2
      have e0 := (hb2.frozen (p := ⟨w.heap.size, k * 3, none⟩) hg').trans f0
      have e1 := (hb2.frozen (p := ⟨w.heap.size, k * 3 + 1, none⟩) hg').trans f1
      have e2 := (hb2.frozen (p := ⟨w.heap.size, k * 3 + 2, none⟩) hg').trans f2
      have HO := Lib.hid (own_below HR.out hb2)
      clear c0 c1 c2 f0 f1 f2 h0 h1 h2 HR
      go_wp2
      go_roundw
      case rel =>
        refine ⟨k + 1, by omega, by go_num, ?_, ?_⟩
        · have s0 := (HO.out.stored (k * 3) (.int .i64 ta)).1
          have s1 := (s0.stored (k * 3 + 1) (.string ts)).1
          have s2 := (s1.stored (k * 3 + 2) (.int .i64 tc)).1
          rw [rowT_set _ k (ta, ts, tc) (by rw [HL.out]; exact hlt), HX.out] at s2
          exact s2
        · exact (((hB.trans (hb2.mono hB.size)).setCell (p := ⟨w.heap.size, k * 3, none⟩) (Nat.le_refl _) _).setCell (p := ⟨w.heap.size, k * 3 + 1, none⟩) (Nat.le_refl _) _).setCell (p := ⟨w.heap.size, k * 3 + 2, none⟩) (Nat.le_refl _) _
      case measure => simp [intOf]; omega
    · have HR := Lib.hid hrow
      clear hrow
      go_wp2
      go_ret
      refine ⟨_, rfl, ?_, hB⟩
      have h2 := HR.out
      obtain rfl : xs.length = k := by omega
      rw [List.take_length, Nat.sub_self, List.replicate_zero, List.append_nil] at h2
      exact h2
theorem szTok_any (a c : Int) (s : ByteArray) (n : Int) (w : World) (h0 : 0 ≤ n) (h1 : n ≤ 2 ^ 40) (hs : s.size ≤ 9223372036854775807) :
    Calls Try.prog 21 #[.agg #[.int .i64 a, .string s, .int .i64 c], .int .i64 n] w fun e w' => e = .returned (.int .i64 (if n < s.size then -1 else n - s.size)) ∧ Below w.heap.size w w' := by
  by_cases h : n < s.size
  · have q1 : decide (n - (s.size : Int) < 0) = true := by simp; omega
    rw [if_pos h]
    clear h
    go_enter Try.func21, Try.ntmps21
    go_wp2
    go_ret
    exact ⟨rfl, (Below.refl _ w).alloc (Nat.le_refl _) _⟩
  · have q1 : decide (n - (s.size : Int) < 0) = false := by simp; omega
    rw [if_neg h]
    clear h
    go_enter Try.func21, Try.ntmps21
    go_wp2
    go_ret
    exact ⟨rfl, (Below.refl _ w).alloc (Nat.le_refl _) _⟩
set_option maxRecDepth 100000 in
set_option maxHeartbeats 1000000 in
theorem szTokS_any (A : Option Addr) (c n : Nat) (left : Int) (xs : List Tv) (w : World) (hss : IsToks w A n xs) (h0 : 0 ≤ left) (h1 : left ≤ 2 ^ 40) :
    Calls Try.prog 14 #[.slice A n c, .int .i64 left] w (LeftT xs left w) := by
  obtain ⟨hn, hm, hA, hsz⟩ := hss
  unfold maxLen at hm hsz
  have HN := Lib.hid hn
  have HA := Lib.hid hA
  have HZ := Lib.hid hsz
  clear hn hA hsz
  by_cases hbig : left < n
  · have q1 : left - (n : Int) < 0 := by omega
    go_enter Try.func14, Try.ntmps14
    go_wp2
    go_ret
    exact ⟨_, rfl, fun h => absurd h (by decide), by omega, Below.refl _ _⟩
  · have q1 : ¬ (left - (n : Int) < 0) := by omega
    go_enter Try.func14, Try.ntmps14
    go_wp2
    go_loopw [1, 5] (fun d i wr => ∃ (k : Nat) (r : Int), k ≤ n ∧ 0 ≤ r ∧ i = .int .i64 k ∧ d = .int .i64 r ∧ r + (totT (xs.take k) : Int) + ((n - k : Nat) : Int) = left ∧ Below w.heap.size w wr) (fun _ i _ => n - (intOf i).toNat)
    case atStart => exact ⟨0, left - n, Nat.zero_le _, by omega, rfl, rfl, by simp [totT], Below.refl _ _⟩
    case round =>
      obtain ⟨k, r, hk, hr0, rfl, rfl, heq, hB⟩ := hrel
      by_cases hlt : k < n
      · have hkl : k < xs.length := by rw [HN.out]; exact hlt
        obtain ⟨g, off, rfl, hg, c0, c1, c2⟩ := (HA.out.below hB).tok hkl
        have hsk := HZ.out xs[k] (List.getElem_mem _)
        have hts := totT_take_succ xs k hkl
        generalize xs[k] = t at *
        obtain ⟨ta, ts, tc⟩ := t
        simp only at c0 c1 c2 hsk hts
        have hrl : r ≤ left := by omega
        have HQ := Lib.hid heq
        have HTS := Lib.hid hts
        clear heq hts
        have HS := Lib.hid (fun W => szTok_any ta tc ts r W hr0 (by omega) (by omega))
        by_cases hneg : r < (ts.size : Int)
        · simp only [if_pos hneg] at HS
          go_wp2_with fail
          refine (HS.out _).mono ?_
          rintro e w2 ⟨rfl, hb2⟩
          go_wp2
          go_ret
          exact ⟨_, rfl, fun h => absurd h (by decide), by omega, hB.trans (hb2.mono hB.size)⟩
        · simp only [if_neg hneg] at HS
          have q2 : decide (r - (ts.size : Int) < 0) = false := by simp; omega
          go_wp2_with fail
          refine (HS.out _).mono ?_
          rintro e w2 ⟨rfl, hb2⟩
          clear HS
          go_wp2
          go_roundw
          case rel => exact ⟨k + 1, r - ts.size, by omega, by omega, by go_num, rfl, by have := HQ.out; have := HTS.out; omega, hB.trans (hb2.mono hB.size)⟩
          case measure => simp [intOf]; omega
      · have HQ := Lib.hid heq
        clear heq
        go_wp2
        go_ret
        refine ⟨r, rfl, fun _ => ?_, ?_, hB⟩
        · have := HQ.out
          rw [List.take_of_length_le (by rw [HN.out]; omega)] at this
          omega
        · have := HQ.out
          omega
end Go.Proofs.Ytfepifcpcfoaaaa
