/-
  The contracts of impl.lineEnd, spec.PosOff and impl.PosOff, for all texts and places.
-/
import Derived.Test.YtnpcohbbjfjjaaaPosOf
import Derived.Deep.QuietTactic
import Derived.BigQuiet
namespace Go.Proofs.Ytnpcohbbjfjjaaa
open Go.RowKit

theorem posTo_inj (s : ByteArray) (k n : Nat) (hk : k ≤ s.size) (hn : n ≤ s.size) (h : posTo s k = posTo s n) : k = n := by
  obtain ⟨e, h1, h2, _⟩ := posTo_main s k hk
  obtain ⟨e', h1', h2', _⟩ := posTo_main s n hn
  rw [h] at h1 h2
  rw [h1] at h1'
  simp at h1'
  omega

theorem Box2.alloc {W : World} {g : Nat} {t : TypeId} {x y : Value} (h : Box2 W g t x y) (o : Obj) : Box2 (W.alloc o) g t x y := (Below.heap_alloc W o g (Array.getElem?_eq_some_iff.1 h).1).trans h

/-- The place is that of a byte of the text. -/
def IsPlace (s : ByteArray) (a b : Int) : Prop := ∃ n, n ≤ s.size ∧ a = ((posTo s n).1 : Int) ∧ b = ((posTo s n).2 : Int)

/-- Where line i ends. -/
def endOf (s : ByteArray) (i : Nat) : Nat := ((lines s)[i]?.getD (0, 0)).2
def begOf (s : ByteArray) (i : Nat) : Nat := ((lines s)[i]?.getD (0, 0)).1
theorem lines_at (s : ByteArray) (i : Nat) (h : i < (lines s).length) : (lines s)[i]? = some (begOf s i, endOf s i) := by
  unfold begOf endOf; rw [List.getElem?_eq_getElem h]; rfl
theorem begI_beg (s : ByteArray) (i : Nat) (h : i < (lines s).length) : (begI s).getD i 0 = (begOf s i : Int) := by
  rw [begI_get s i h]; unfold begOf; rw [List.getElem?_eq_getElem h]; rfl
theorem end_next (s : ByteArray) (i : Nat) (h : i + 1 < (lines s).length) : begOf s (i + 1) = endOf s i + 1 :=
  (ends_main (L s) 0 0 i _ _ (Nat.le_refl _) (lines_at s i (by omega))).2.2.1 (lines_at s (i + 1) h)
theorem end_last (s : ByteArray) (i : Nat) (h : i + 1 = (lines s).length) : endOf s i = s.size := by
  have := (ends_main (L s) 0 0 i _ (0, 0) (Nat.le_refl _) (lines_at s i (by omega))).2.2.2 h
  rw [L_length] at this; simpa using this
theorem end_le (s : ByteArray) (i : Nat) (h : i < (lines s).length) : begOf s i ≤ endOf s i ∧ endOf s i ≤ s.size := by
  have := ends_main (L s) 0 0 i _ (0, 0) (Nat.le_refl _) (lines_at s i h)
  rw [L_length] at this
  exact ⟨this.1, by simpa using this.2.1⟩

set_option maxHeartbeats 400000 in
theorem lineEnd_any (s : ByteArray) (g len cap i : Nat) (w : World) (hs : s.size ≤ 2 ^ 30) (hl : len = (lines s).length) (hi : i < len) (hc : ∀ j, j < len → w.cell? ⟨g, j, none⟩ = some (.int .i64 ((begI s).getD j 0))) :
    Calls Try.prog 48 #[.string s, .slice (some ⟨g, 0, none⟩) len cap, .int .i64 (i : Int)] w fun e w' => e = .returned (.int .i64 (endOf s i : Int)) ∧ w = w' := by
  have hll := lines_length s
  rw [← hl] at hll
  by_cases hx : i + 1 < len
  · have h1 := hc (i + 1) hx
    rw [begI_beg s (i + 1) (by omega), end_next s i (by omega)] at h1
    have he := (end_le s i (by omega)).2
    have q1 : (i : Int) + 1 < (len : Int) := by omega
    clear hc hl
    generalize endOf s i = x at *
    go_enter Try.func48, Try.ntmps48
    go_wp2
    go_ret
    exact ⟨congrArg (fun z => Ending.returned (.int .i64 z)) (by simp), rfl⟩
  · have he := end_last s i (by omega)
    have HE := Lib.hid he
    have q1 : ¬ ((i : Int) + 1 < (len : Int)) := by omega
    clear hc hl he
    go_enter Try.func48, Try.ntmps48
    go_wp2
    go_ret
    exact ⟨by rw [HE.out]; rfl, rfl⟩

set_option maxRecDepth 100000 in
set_option maxHeartbeats 1000000 in
theorem specPosOff_yes (s : ByteArray) (n : Nat) (w : World) (hs : s.size ≤ 2 ^ 30) (hok : okB s = true) (hn : n ≤ s.size) :
    Calls Try.prog 21 #[.string s, .agg #[.int .i64 ((posTo s n).1 : Int), .int .i64 ((posTo s n).2 : Int)]] w fun e w' => e = .returned (.tuple #[.int .i64 (n : Int), .bool true]) ∧ Below w.heap.size w w' := by
  have HT := Lib.hid (fun W => specTextOk_any s W (by unfold maxLen; omega))
  rw [hok] at HT
  have HOK := Lib.hid hok
  clear hok
  generalize hP : posTo s n = P at *
  have HP := Lib.hid hP
  clear hP
  obtain ⟨a, b⟩ := P
  dsimp only
  go_enter Try.func21, Try.ntmps21
  go_wp2_with fail
  refine (HT.out _).mono ?_
  rintro e w1 ⟨rfl, rfl⟩
  go_wp2
  go_loopw [6] (fun i wr => ∃ k : Nat, k ≤ n ∧ i = .int .i64 k ∧ Box2 wr w.heap.size 26 (.int .i64 (a : Int)) (.int .i64 (b : Int)) ∧ Below w.heap.size w wr)
    (fun i _ => n + 1 - (intOf i).toNat)
  case atStart => exact ⟨0, Nat.zero_le _, rfl, Box2.new w _ _ _, (Below.refl _ w).alloc (Nat.le_refl _) _⟩
  case round =>
    obtain ⟨k, hk, rfl, bx, hB⟩ := hrel
    have hks : (k : Int) ≤ (s.size : Int) := by omega
    have HC := Lib.hid (specPosOf_yes s k wr (by omega) HOK.out (by omega))
    have hle := posTo_le s k
    by_cases hkn : k = n
    · subst hkn
      rw [HP.out] at HC
      simp only [posV] at HC
      go_wp2_with fail
      refine HC.out.mono ?_
      rintro e w2 ⟨rfl, hb2⟩
      have bx2 := bx.below hb2 (Array.getElem?_eq_some_iff.1 bx).1
      have c0 := bx2.cell0
      have c1 := bx2.cell1
      have hlt : w.heap.size < w2.heap.size := (Array.getElem?_eq_some_iff.1 bx2).1
      go_wp2
      go_ret2
      exact ⟨rfl, (hB.trans (hb2.mono hB.size)).alloc (Nat.le_trans hB.size hb2.size) _⟩
    · have hne : ¬ (posTo s k = (a, b)) := fun h => hkn (posTo_inj s k n (by omega) hn (by rw [h, HP.out]))
      generalize posTo s k = P at *
      obtain ⟨c, d⟩ := P
      simp only [posV] at HC hle
      have hne2 : ¬ (c = a ∧ d = b) := fun h => hne (by rw [h.1, h.2])
      clear hne
      go_wp2_with fail
      refine HC.out.mono ?_
      rintro e w2 ⟨rfl, hb2⟩
      have bx2 := bx.below hb2 (Array.getElem?_eq_some_iff.1 bx).1
      have c0 := bx2.cell0
      have c1 := bx2.cell1
      have hlt : w.heap.size < w2.heap.size := (Array.getElem?_eq_some_iff.1 bx2).1
      go_wp2
      all_goals
        go_roundw
        case rel => exact ⟨k + 1, by omega, by go_num, bx2.alloc _, (hB.trans (hb2.mono hB.size)).alloc (Nat.le_trans hB.size hb2.size) _⟩
        case measure => simp [intOf]; omega

set_option maxRecDepth 100000 in
set_option maxHeartbeats 1000000 in
theorem specPosOff_no (s : ByteArray) (a b : Int) (w : World) (hs : s.size ≤ 2 ^ 30) (hno : ¬ (okB s = true ∧ IsPlace s a b)) :
    Calls Try.prog 21 #[.string s, .agg #[.int .i64 a, .int .i64 b]] w fun e w' => e = .returned (.tuple #[.int .i64 0, .bool false]) ∧ Below w.heap.size w w' := by
  have HT := Lib.hid (fun W => specTextOk_any s W (by unfold maxLen; omega))
  cases hok : okB s
  · rw [hok] at HT
    clear hok hno
    go_enter Try.func21, Try.ntmps21
    go_wp2_with fail
    refine (HT.out _).mono ?_
    rintro e w1 ⟨rfl, rfl⟩
    go_wp2
    go_ret2
    exact ⟨rfl, (Below.refl _ w).alloc (Nat.le_refl _) _⟩
  · have hnp : ¬ IsPlace s a b := fun h => hno ⟨hok, h⟩
    rw [hok] at HT
    have HOK := Lib.hid hok
    have HN := Lib.hid hnp
    clear hok hno hnp
    go_enter Try.func21, Try.ntmps21
    go_wp2_with fail
    refine (HT.out _).mono ?_
    rintro e w1 ⟨rfl, rfl⟩
    go_wp2
    go_loopw [6] (fun i wr => ∃ k : Nat, k ≤ s.size + 1 ∧ i = .int .i64 k ∧ Box2 wr w.heap.size 26 (.int .i64 a) (.int .i64 b) ∧ Below w.heap.size w wr)
      (fun i _ => s.size + 1 - (intOf i).toNat)
    case atStart => exact ⟨0, Nat.zero_le _, rfl, Box2.new w _ _ _, (Below.refl _ w).alloc (Nat.le_refl _) _⟩
    case round =>
      obtain ⟨k, hk, rfl, bx, hB⟩ := hrel
      by_cases hke : k ≤ s.size
      · have hks : (k : Int) ≤ (s.size : Int) := by omega
        have HC := Lib.hid (specPosOf_yes s k wr (by omega) HOK.out (by omega))
        have hle := posTo_le s k
        have hne : ¬ (a = ((posTo s k).1 : Int) ∧ b = ((posTo s k).2 : Int)) := fun h => HN.out ⟨k, hke, h.1, h.2⟩
        generalize posTo s k = P at *
        obtain ⟨c, d⟩ := P
        simp only [posV] at HC hle hne
        have hne2 : ¬ ((c : Int) = a ∧ (d : Int) = b) := fun h => hne ⟨h.1.symm, h.2.symm⟩
        clear hne
        go_wp2_with fail
        refine HC.out.mono ?_
        rintro e w2 ⟨rfl, hb2⟩
        have bx2 := bx.below hb2 (Array.getElem?_eq_some_iff.1 bx).1
        have c0 := bx2.cell0
        have c1 := bx2.cell1
        have hlt : w.heap.size < w2.heap.size := (Array.getElem?_eq_some_iff.1 bx2).1
        go_wp2
        all_goals
          go_roundw
          case rel => exact ⟨k + 1, by omega, by go_num, bx2.alloc _, (hB.trans (hb2.mono hB.size)).alloc (Nat.le_trans hB.size hb2.size) _⟩
          case measure => simp [intOf]; omega
      · have hks : ¬ ((k : Int) ≤ (s.size : Int)) := by omega
        go_wp2
        go_ret2
        exact ⟨rfl, hB⟩

set_option maxHeartbeats 1000000 in
theorem posOff_yes (s : ByteArray) (n : Nat) (w : World) (hs : s.size ≤ 2 ^ 30) (hok : okB s = true) (hn : n ≤ s.size) :
    Calls Try.prog 18 #[.string s, .agg #[.int .i64 ((posTo s n).1 : Int), .int .i64 ((posTo s n).2 : Int)]] w fun e w' => e = .returned (.tuple #[.int .i64 (n : Int), .bool true]) ∧ Below w.heap.size w w' := by
  have HT := Lib.hid (fun W => textOk_any s W (by omega))
  rw [hok] at HT
  clear hok
  obtain ⟨ee, hx, hx2, hx3, _, _⟩ := posTo_main s n hn
  have hlen : (posTo s n).1 < (lines s).length := (List.getElem?_eq_some_iff.1 hx).1
  have hpair := (lines_at s _ hlen).symm.trans hx
  simp only [Option.some.injEq, Prod.mk.injEq] at hpair
  have hend := (end_le s _ hlen).2
  have hll := lines_length s
  have hle := posTo_le s n
  have HL := Lib.hid (fun (g cap : Nat) (W : World) (hc : ∀ j, j < (lines s).length → W.cell? ⟨g, j, none⟩ = some (.int .i64 ((begI s).getD j 0))) => lineEnd_any s g (lines s).length cap (posTo s n).1 W hs rfl hlen hc)
  have HB := Lib.hid (fun (g : Nat) (W : World) (hc : ∀ j, j < (lines s).length → W.cell? ⟨g, j, none⟩ = some (.int .i64 ((begI s).getD j 0))) => (hc (posTo s n).1 hlen).trans (by rw [begI_beg s _ hlen]))
  clear hx
  generalize posTo s n = P at *
  obtain ⟨i, j⟩ := P
  dsimp only at *
  have q1 : decide ((i : Int) < 0) = false := by simp
  have q2 : decide ((j : Int) < 0) = false := by simp
  go_enter Try.func18, Try.ntmps18
  go_wp2_with fail
  refine (HT.out _).mono ?_
  rintro e w1 ⟨rfl, hb⟩
  have bx := (Box2.new w 26 (.int .i64 (i : Int)) (.int .i64 (j : Int))).below hb (by simp)
  have hB1 : Below w.heap.size w w1 := ((Below.refl _ w).alloc (Nat.le_refl _) _).trans (hb.mono (by simp))
  have c0 := bx.cell0
  have c1 := bx.cell1
  go_wp2_with fail
  refine (lineBegins_any s _ hs).mono ?_
  rintro e w2 ⟨v, rfl, hv, hb2⟩
  obtain ⟨g, cap, rfl, hg1, hg2, hcs⟩ := begins_slice hv
  have bx2 := bx.below hb2 (by have := hb.size; simp at this; omega)
  clear bx c0 c1 hv
  have c0 := bx2.cell0
  have c1 := bx2.cell1
  have hB2 : Below w.heap.size w w2 := hB1.trans (hb2.mono hB1.size)
  have hcell := HB.out g w2 hcs
  have HE := Lib.hid (fun q => HL.out g cap (w2.drewN q) hcs)
  clear HL HB hcs
  obtain ⟨hp1, hp2⟩ := hpair
  rw [hp1] at hcell
  rw [hp2] at HE hend
  have hcb : w2.cell? ⟨g, i, none⟩ = some (.int .i64 ((n : Int) - (j : Int))) := by rw [hcell]; congr 2; omega
  clear hcell hp1 hp2
  generalize (lines s).length = len at *
  have q3 : decide ((len : Int) ≤ (i : Int)) = false := by simp; omega
  have q4 : decide ((ee : Int) - ((n : Int) - (j : Int)) < (j : Int)) = false := by simp; omega
  have hi0 : (0 : Int) ≤ (i : Int) := by omega
  have hi1 : (i : Int) < (len : Int) := by omega
  go_wp2
  have hwr1 : IntKind.i64.wrap ((ee : Int) - ((n : Int) - (j : Int))) = (ee : Int) - ((n : Int) - (j : Int)) := IntWalk.i64_in _ (by omega)
  have hwr2 : IntKind.i64.wrap ((n : Int) - (j : Int) + (j : Int)) = (n : Int) := (IntWalk.i64_in _ (by omega)).trans (by omega)
  go_quiet ((go_at_call 48; exact Calls.quiet_of_same ((HE.out _).mono fun _ _ h => ⟨h.1, h.2.symm⟩)))
  go_wp2
  go_quiet (fail)
  go_wp2
  go_ret2
  exact ⟨rfl, below_more (below_more hB2 _) _⟩

set_option maxHeartbeats 1000000 in
theorem posOff_no (s : ByteArray) (a b : Int) (w : World) (hs : s.size ≤ 2 ^ 30) (wa : -9223372036854775808 ≤ a ∧ a ≤ 9223372036854775807) (wb : -9223372036854775808 ≤ b ∧ b ≤ 9223372036854775807) (hno : ¬ (okB s = true ∧ IsPlace s a b)) :
    Calls Try.prog 18 #[.string s, .agg #[.int .i64 a, .int .i64 b]] w fun e w' => e = .returned (.tuple #[.int .i64 0, .bool false]) ∧ Below w.heap.size w w' := by
  have HT := Lib.hid (fun W => textOk_any s W (by omega))
  cases hok : okB s
  · rw [hok] at HT
    clear hok hno
    go_enter Try.func18, Try.ntmps18
    go_wp2_with fail
    refine (HT.out _).mono ?_
    rintro e w1 ⟨rfl, hb⟩
    have bx := (Box2.new w 26 (.int .i64 a) (.int .i64 b)).below hb (by simp)
    have hB1 : Below w.heap.size w w1 := ((Below.refl _ w).alloc (Nat.le_refl _) _).trans (hb.mono (by simp))
    have c0 := bx.cell0
    have c1 := bx.cell1
    go_wp2
    go_ret2
    exact ⟨rfl, hB1⟩
  · have hnp : ¬ IsPlace s a b := fun h => hno ⟨hok, h⟩
    rw [hok] at HT
    clear hok hno
    by_cases ha : a < 0
    · have q1 : decide (a < 0) = true := by simpa using ha
      clear hnp
      go_enter Try.func18, Try.ntmps18
      go_wp2_with fail
      refine (HT.out _).mono ?_
      rintro e w1 ⟨rfl, hb⟩
      have bx := (Box2.new w 26 (.int .i64 a) (.int .i64 b)).below hb (by simp)
      have hB1 : Below w.heap.size w w1 := ((Below.refl _ w).alloc (Nat.le_refl _) _).trans (hb.mono (by simp))
      have c0 := bx.cell0
      have c1 := bx.cell1
      go_wp2
      go_ret2
      exact ⟨rfl, hB1⟩
    · have q1 : decide (a < 0) = false := by simpa using ha
      by_cases hb0 : b < 0
      · have q2 : decide (b < 0) = true := by simpa using hb0
        clear hnp
        go_enter Try.func18, Try.ntmps18
        go_wp2_with fail
        refine (HT.out _).mono ?_
        rintro e w1 ⟨rfl, hb⟩
        have bx := (Box2.new w 26 (.int .i64 a) (.int .i64 b)).below hb (by simp)
        have hB1 : Below w.heap.size w w1 := ((Below.refl _ w).alloc (Nat.le_refl _) _).trans (hb.mono (by simp))
        have c0 := bx.cell0
        have c1 := bx.cell1
        go_wp2
        go_ret2
        exact ⟨rfl, hB1⟩
      · have q2 : decide (b < 0) = false := by simpa using hb0
        have hll := lines_length s
        by_cases hal : ((lines s).length : Int) ≤ a
        · have q3 : decide (((lines s).length : Int) ≤ a) = true := by simpa using hal
          clear hnp
          go_enter Try.func18, Try.ntmps18
          go_wp2_with fail
          refine (HT.out _).mono ?_
          rintro e w1 ⟨rfl, hb⟩
          have bx := (Box2.new w 26 (.int .i64 a) (.int .i64 b)).below hb (by simp)
          have hB1 : Below w.heap.size w w1 := ((Below.refl _ w).alloc (Nat.le_refl _) _).trans (hb.mono (by simp))
          have c0 := bx.cell0
          have c1 := bx.cell1
          go_wp2_with fail
          refine (lineBegins_any s _ hs).mono ?_
          rintro e w2 ⟨v, rfl, hv, hb2⟩
          obtain ⟨g, cap, rfl, hg1, hg2, hcs⟩ := begins_slice hv
          have bx2 := bx.below hb2 (by have := hb.size; simp at this; omega)
          clear bx c0 c1 hv
          have c0 := bx2.cell0
          have c1 := bx2.cell1
          have hB2 : Below w.heap.size w w2 := hB1.trans (hb2.mono hB1.size)
          clear hcs
          generalize (lines s).length = len at *
          go_wp2
          go_quiet (fail)
          go_wp2
          go_ret2
          exact ⟨rfl, below_more hB2 _⟩
        · obtain ⟨i, rfl⟩ := Int.eq_ofNat_of_zero_le (show 0 ≤ a by omega)
          have hlen : i < (lines s).length := by omega
          have hend := end_le s i hlen
          have hbig : (endOf s i : Int) - (begOf s i : Int) < b := by
            rcases Int.lt_or_le ((endOf s i : Int) - (begOf s i : Int)) b with h | h
            · exact h
            · obtain ⟨j, rfl⟩ := Int.eq_ofNat_of_zero_le (show 0 ≤ b by omega)
              refine absurd ⟨begOf s i + j, by omega, ?_⟩ hnp
              rw [posTo_back s i _ _ (begOf s i + j) (lines_at s i hlen) (by omega) (by omega)]
              exact ⟨rfl, by simp⟩
          have HL := Lib.hid (fun (g cap : Nat) (W : World) (hc : ∀ j, j < (lines s).length → W.cell? ⟨g, j, none⟩ = some (.int .i64 ((begI s).getD j 0))) => lineEnd_any s g (lines s).length cap i W hs rfl hlen hc)
          clear hnp
          go_enter Try.func18, Try.ntmps18
          go_wp2_with fail
          refine (HT.out _).mono ?_
          rintro e w1 ⟨rfl, hb⟩
          have bx := (Box2.new w 26 (.int .i64 (i : Int)) (.int .i64 b)).below hb (by simp)
          have hB1 : Below w.heap.size w w1 := ((Below.refl _ w).alloc (Nat.le_refl _) _).trans (hb.mono (by simp))
          have c0 := bx.cell0
          have c1 := bx.cell1
          go_wp2_with fail
          refine (lineBegins_any s _ hs).mono ?_
          rintro e w2 ⟨v, rfl, hv, hb2⟩
          obtain ⟨g, cap, rfl, hg1, hg2, hcs⟩ := begins_slice hv
          have bx2 := bx.below hb2 (by have := hb.size; simp at this; omega)
          clear bx c0 c1 hv
          have c0 := bx2.cell0
          have c1 := bx2.cell1
          have hB2 : Below w.heap.size w w2 := hB1.trans (hb2.mono hB1.size)
          have hcell := (hcs i hlen).trans (by rw [begI_beg s _ hlen])
          have HE := Lib.hid (fun q => HL.out g cap (w2.drewN q) hcs)
          clear HL hcs
          generalize (lines s).length = len at *
          generalize endOf s i = ee at *
          generalize begOf s i = bb at *
          have q3 : decide ((len : Int) ≤ (i : Int)) = false := by simp; omega
          have q4 : decide ((ee : Int) - (bb : Int) < b) = true := by simpa using hbig
          have hi0 : (0 : Int) ≤ (i : Int) := by omega
          have hi1 : (i : Int) < (len : Int) := by omega
          go_wp2
          have hwr1 : IntKind.i64.wrap ((ee : Int) - (bb : Int)) = (ee : Int) - (bb : Int) := IntWalk.i64_in _ (by omega)
          go_quiet ((go_at_call 48; exact Calls.quiet_of_same ((HE.out _).mono fun _ _ h => ⟨h.1, h.2.symm⟩)))
          go_wp2
          go_ret2
          exact ⟨rfl, below_more hB2 _⟩

end Go.Proofs.Ytnpcohbbjfjjaaa
