/-
  The contracts of spec.PosOf and impl.PosOf, for all texts and bytes.
-/
import Derived.Test.YtnpcohbbjfjjaaaCollect
import Derived.Test.YtnpcohbbjfjjaaaPosMath
import Derived.Test.YtnpcohbbjfjjaaaShelf
import Derived.Deep.AppendLies
namespace Go.Proofs.Ytnpcohbbjfjjaaa
open Go.RowKit

def posV (a b : Int) : Value := .agg #[.int .i64 a, .int .i64 b]

theorem posTo_le (s : ByteArray) (k : Nat) : (posTo s k).1 ≤ k ∧ (posTo s k).2 ≤ k := by
  unfold posTo
  have gen : ∀ (l : List UInt8) (p : Nat × Nat), (posFrom p l).1 ≤ p.1 + l.length ∧ (posFrom p l).2 ≤ p.2 + l.length := by
    intro l
    induction l with
    | nil => intro p; simp [posFrom]
    | cons c l ih =>
      intro p
      have := ih (posStep p c)
      show (posFrom (posStep p c) l).1 ≤ _ ∧ (posFrom (posStep p c) l).2 ≤ _
      simp only [List.length_cons]
      by_cases h : c = 10
      · have e : posStep p c = (p.1 + 1, 0) := by simp [posStep, h]
        rw [e] at this ⊢
        simp only at this
        omega
      · have e : posStep p c = (p.1, p.2 + 1) := by simp [posStep, h]
        rw [e] at this ⊢
        simp only at this
        omega
  have h := gen ((L s).take k) (0, 0)
  have hl : ((L s).take k).length ≤ k := by simp; omega
  simp only [Nat.zero_add] at h
  omega

set_option maxRecDepth 100000 in
set_option maxHeartbeats 1000000 in
theorem specPosOf_yes (s : ByteArray) (n : Nat) (w : World) (hs : s.size ≤ 2 ^ 40) (hok : okB s = true) (hn : n ≤ s.size) :
    Calls Try.prog 17 #[.string s, .int .i64 (n : Int)] w fun e w' => e = .returned (.tuple #[posV (posTo s n).1 (posTo s n).2, .bool true]) ∧ Below w.heap.size w w' := by
  have HT := Lib.hid (fun W => specTextOk_any s W (by unfold maxLen; omega))
  rw [hok] at HT
  clear hok
  have q1 : decide ((n : Int) < 0) = false := by simp
  have q2 : decide ((s.size : Int) < (n : Int)) = false := by simp; omega
  go_enter Try.func17, Try.ntmps17
  go_wp2_with fail
  refine (HT.out _).mono ?_
  rintro e w1 ⟨rfl, rfl⟩
  go_wp2
  go_loopw [7] (fun i wr => ∃ k a b : Nat, k ≤ n ∧ i = .int .i64 k ∧ posTo s k = (a, b) ∧ wr = (w.alloc (.cells #[.int .i64 0, .int .i64 0] 26)).alloc (.cells #[.int .i64 (a : Int), .int .i64 (b : Int)] 26))
    (fun i _ => n - (intOf i).toNat)
  case atStart => exact ⟨0, 0, 0, Nat.zero_le _, rfl, rfl, rfl⟩
  case round =>
    obtain ⟨k, a, b, hk, rfl, hp, rfl⟩ := hrel
    have hle := posTo_le s k
    rw [hp] at hle
    simp only at hle
    have HP := Lib.hid hp
    clear hp
    by_cases hlt : k < n
    · have hx : k < s.size := by omega
      have HS := Lib.hid (posTo_succ s k hx)
      by_cases h10 : (s[k].toNat : Int) = 10
      · have q5 : ((s[k].toNat : Int) == 10) = true := by simpa using h10
        have q3 : s[k] = 10 := UInt8.toNat_inj.1 (by have : (10 : UInt8).toNat = 10 := rfl; omega)
        have HF := Lib.hid (show posTo s (k + 1) = (a + 1, 0) by rw [HS.out, HP.out]; simp [posStep, q3])
        clear HP HS q3 h10
        go_wp2
        go_roundw
        case rel => exact ⟨k + 1, a + 1, 0, by omega, by go_num, HF.out, by go_num⟩
        case measure => simp [intOf]; omega
      · have q5 : ((s[k].toNat : Int) == 10) = false := by simpa using h10
        have q3 : ¬ s[k] = 10 := fun h => h10 (by rw [h]; rfl)
        have HF := Lib.hid (show posTo s (k + 1) = (a, b + 1) by rw [HS.out, HP.out]; simp [posStep, q3])
        clear HP HS q3 h10
        go_wp2
        go_roundw
        case rel => exact ⟨k + 1, a, b + 1, by omega, by go_num, HF.out, by go_num⟩
        case measure => simp [intOf]; omega
    · obtain rfl : n = k := by omega
      go_wp2
      refine bodyPost_ret (v := .tuple #[posV (a : Int) (b : Int), .bool true]) (by simp [results, Try.results17, go_sem, posV]) rfl ⟨by rw [HP.out], ?_⟩
      exact ((Below.refl _ w).alloc (Nat.le_refl _) _).alloc (by simp) _

set_option maxHeartbeats 1000000 in
theorem specPosOf_no (s : ByteArray) (off : Int) (w : World) (hs : s.size ≤ 2 ^ 40) (hno : ¬ (okB s = true ∧ 0 ≤ off ∧ off ≤ s.size)) :
    Calls Try.prog 17 #[.string s, .int .i64 off] w fun e w' => e = .returned (.tuple #[posV 0 0, .bool false]) ∧ Below w.heap.size w w' := by
  have HT := Lib.hid (fun W => specTextOk_any s W (by unfold maxLen; omega))
  cases hok : okB s
  · rw [hok] at HT
    clear hok hno
    go_enter Try.func17, Try.ntmps17
    go_wp2_with fail
    refine (HT.out _).mono ?_
    rintro e w1 ⟨rfl, rfl⟩
    go_wp2
    refine bodyPost_ret (v := .tuple #[posV 0 0, .bool false]) (by simp [results, Try.results17, go_sem, posV]) rfl ⟨rfl, ?_⟩
    exact (Below.refl _ w).alloc (Nat.le_refl _) _
  · rw [hok] at HT hno
    clear hok
    by_cases hneg : off < 0
    · have q1 : decide (off < 0) = true := by simpa using hneg
      clear hno
      go_enter Try.func17, Try.ntmps17
      go_wp2_with fail
      refine (HT.out _).mono ?_
      rintro e w1 ⟨rfl, rfl⟩
      go_wp2
      refine bodyPost_ret (v := .tuple #[posV 0 0, .bool false]) (by simp [results, Try.results17, go_sem, posV]) rfl ⟨rfl, ?_⟩
      exact (Below.refl _ w).alloc (Nat.le_refl _) _
    · have q1 : decide (off < 0) = false := by simpa using hneg
      have hbig : (s.size : Int) < off := by
        rcases Int.lt_or_le (s.size : Int) off with h | h
        · exact h
        · exact absurd ⟨rfl, by omega, h⟩ hno
      have q2 : decide ((s.size : Int) < off) = true := by simpa using hbig
      clear hno
      go_enter Try.func17, Try.ntmps17
      go_wp2_with fail
      refine (HT.out _).mono ?_
      rintro e w1 ⟨rfl, rfl⟩
      go_wp2
      refine bodyPost_ret (v := .tuple #[posV 0 0, .bool false]) (by simp [results, Try.results17, go_sem, posV]) rfl ⟨rfl, ?_⟩
      exact (Below.refl _ w).alloc (Nat.le_refl _) _

/-- Block g is a box of two cells. -/
def Box2 (W : World) (g : Nat) (t : TypeId) (x y : Value) : Prop := W.heap[g]? = some (.cells #[x, y] t (0, 0))
theorem Box2.new (w : World) (t : TypeId) (x y : Value) : Box2 (w.alloc (.cells #[x, y] t)) w.heap.size t x y := World.alloc_heap_new w _
theorem Box2.below {W W' : World} {g : Nat} {t : TypeId} {x y : Value} {B : Nat} (h : Box2 W g t x y) (hb : Below B W W') (hg : g < B) : Box2 W' g t x y := (hb.block g hg).trans h
theorem Box2.cell0 {W : World} {g : Nat} {t : TypeId} {x y : Value} (h : Box2 W g t x y) : W.cell? ⟨g, 0, none⟩ = some x := by simp [World.cell?, show W.heap[g]? = _ from h]
theorem Box2.cell1 {W : World} {g : Nat} {t : TypeId} {x y : Value} (h : Box2 W g t x y) : W.cell? ⟨g, 1, none⟩ = some y := by simp [World.cell?, show W.heap[g]? = _ from h]
theorem Box2.frozen {W : World} {g : Nat} {t : TypeId} {x y : Value} (h : Box2 W g t x y) (i : Nat) : W.frozen? ⟨g, i, none⟩ = false := by simp [World.frozen?, show W.heap[g]? = _ from h]

theorem Box2.set {W : World} {g : Nat} {t : TypeId} {x y : Value} (h : Box2 W g t x y) (a b : Value) : Box2 ((W.setCell ⟨g, 0, none⟩ a).setCell ⟨g, 1, none⟩ b) g t a b := by
  have h1 := heap_setCell_same W g 0 #[x, y] t a h
  have h2 := heap_setCell_same _ g 1 _ t b h1
  exact h2
theorem below_set2 {w W : World} (h : Below w.heap.size w W) {g : Nat} (hg : w.heap.size ≤ g) (a b : Value) : Below w.heap.size w ((W.setCell ⟨g, 0, none⟩ a).setCell ⟨g, 1, none⟩ b) :=
  (h.setCell (p := ⟨g, 0, none⟩) hg a).setCell (p := ⟨g, 1, none⟩) hg b

set_option maxHeartbeats 1000000 in
theorem posOf_no (s : ByteArray) (off : Int) (w : World) (hs : s.size ≤ 2 ^ 40) (hno : ¬ (okB s = true ∧ 0 ≤ off ∧ off ≤ s.size)) :
    Calls Try.prog 16 #[.string s, .int .i64 off] w fun e w' => e = .returned (.tuple #[posV 0 0, .bool false]) ∧ Below w.heap.size w w' := by
  have HT := Lib.hid (fun W => textOk_any s W (by omega))
  cases hok : okB s
  · rw [hok] at HT
    clear hok hno
    go_enter Try.func16, Try.ntmps16
    go_wp2_with fail
    refine (HT.out _).mono ?_
    rintro e w1 ⟨rfl, hb⟩
    have bx := (Box2.new w 26 (.int .i64 0) (.int .i64 0)).below hb (by simp)
    have hB1 : Below w.heap.size w w1 := ((Below.refl _ w).alloc (Nat.le_refl _) _).trans (hb.mono (by simp))
    have c0 := bx.cell0
    have c1 := bx.cell1
    have f0 := bx.frozen 0
    have f1 := bx.frozen 1
    go_wp2
    have b2 := bx.set (.int .i64 0) (.int .i64 0)
    exact bodyPost_ret (v := .tuple #[posV 0 0, .bool false]) (by simp [results, Try.results16, go_sem, posV, b2.cell0, b2.cell1]) rfl ⟨rfl, below_set2 hB1 (Nat.le_refl _) _ _⟩
  · rw [hok] at HT hno
    clear hok
    by_cases hneg : off < 0
    · have q1 : decide (off < 0) = true := by simpa using hneg
      clear hno
      go_enter Try.func16, Try.ntmps16
      go_wp2_with fail
      refine (HT.out _).mono ?_
      rintro e w1 ⟨rfl, hb⟩
      have bx := (Box2.new w 26 (.int .i64 0) (.int .i64 0)).below hb (by simp)
      have hB1 : Below w.heap.size w w1 := ((Below.refl _ w).alloc (Nat.le_refl _) _).trans (hb.mono (by simp))
      have c0 := bx.cell0
      have c1 := bx.cell1
      have f0 := bx.frozen 0
      have f1 := bx.frozen 1
      go_wp2
      have b2 := bx.set (.int .i64 0) (.int .i64 0)
      exact bodyPost_ret (v := .tuple #[posV 0 0, .bool false]) (by simp [results, Try.results16, go_sem, posV, b2.cell0, b2.cell1]) rfl ⟨rfl, below_set2 hB1 (Nat.le_refl _) _ _⟩
    · have q1 : decide (off < 0) = false := by simpa using hneg
      have hbig : (s.size : Int) < off := by
        rcases Int.lt_or_le (s.size : Int) off with h | h
        · exact h
        · exact absurd ⟨rfl, by omega, h⟩ hno
      have q2 : decide ((s.size : Int) < off) = true := by simpa using hbig
      clear hno
      go_enter Try.func16, Try.ntmps16
      go_wp2_with fail
      refine (HT.out _).mono ?_
      rintro e w1 ⟨rfl, hb⟩
      have bx := (Box2.new w 26 (.int .i64 0) (.int .i64 0)).below hb (by simp)
      have hB1 : Below w.heap.size w w1 := ((Below.refl _ w).alloc (Nat.le_refl _) _).trans (hb.mono (by simp))
      have c0 := bx.cell0
      have c1 := bx.cell1
      have f0 := bx.frozen 0
      have f1 := bx.frozen 1
      go_wp2
      have b2 := bx.set (.int .i64 0) (.int .i64 0)
      exact bodyPost_ret (v := .tuple #[posV 0 0, .bool false]) (by simp [results, Try.results16, go_sem, posV, b2.cell0, b2.cell1]) rfl ⟨rfl, below_set2 hB1 (Nat.le_refl _) _ _⟩

theorem contains_int (l : List Nat) (k : Nat) : (l.map (fun x : Nat => (x : Int))).contains (k : Int) = decide (k ∈ l) := by
  rw [Bool.eq_iff_iff]; simp
  constructor
  · rintro ⟨a, h, e⟩
    obtain rfl : a = k := by omega
    exact h
  · intro h
    exact ⟨k, h, rfl⟩
theorem count_int (l : List Nat) (k : Nat) : (l.map (fun x : Nat => (x : Int))).countP (fun x => decide (x < (k : Int))) = l.countP (fun x => decide (x < k)) := by
  rw [List.countP_map]
  congr 1
  funext x
  simp

/-- Where lines begin, as numbers of Go's. -/
def begI (s : ByteArray) : List Int := (beg (lines s)).map (fun x : Nat => (x : Int))
theorem begI_length (s : ByteArray) : (begI s).length = (lines s).length := by simp [begI, beg]
theorem begI_get (s : ByteArray) (j : Nat) (h : j < (lines s).length) : (begI s).getD j 0 = ((lines s)[j].1 : Int) := by
  simp [begI, beg, List.getD, h]

theorem begins_slice {s : ByteArray} {b : Nat} {w : World} {v : Value} (hv : w.ownsRow b 3 1 v ((lines s).map vBegin).length ((lines s).map vBegin)) :
    ∃ g cap, v = .slice (some ⟨g, 0, none⟩) (lines s).length cap ∧ b ≤ g ∧ g < w.heap.size ∧ ∀ j, j < (lines s).length → w.cell? ⟨g, j, none⟩ = some (.int .i64 ((begI s).getD j 0)) := by
  have hne := lines_ne s
  rw [List.length_map] at hv
  obtain ⟨g, cap, e, hb, hg⟩ := hv.form hne
  subst e
  refine ⟨g, cap, rfl, hb, hg, fun j hj => ?_⟩
  rw [hv.cellAt j (by omega), List.getElem?_map, List.getElem?_eq_getElem hj, begI_get s j hj]
  rfl

theorem search_begins (s : ByteArray) (g cap n : Nat) (w : World) (hs : s.size ≤ 2 ^ 30) (hn : n ≤ s.size) (hc : ∀ j, j < (lines s).length → w.cell? ⟨g, j, none⟩ = some (.int .i64 ((begI s).getD j 0))) :
    Calls Try.prog 47 #[.slice (some ⟨g, 0, none⟩) (lines s).length cap, .int .i64 (n : Int)] w fun e w' =>
      e = .returned (.tuple #[.int .i64 (((if (posTo s n).2 = 0 then (posTo s n).1 else (posTo s n).1 + 1) : Nat) : Int), .bool (decide ((posTo s n).2 = 0))]) ∧ ∃ q, w' = w.drewN q := by
  have hll := lines_length s
  have h := Try.slices_BinarySearch_int g 0 (lines s).length cap (begI s) (n : Int) w (by rw [begI_length]; exact Nat.le_refl _) (by omega)
    (fun j hj => by rw [Nat.zero_add]; exact hc j (by rw [← begI_length]; exact hj))
    (by
      rw [List.take_of_length_le (by rw [begI_length]; exact Nat.le_refl _)]
      unfold begI
      rw [List.pairwise_map]
      exact (beg_sorted (L s) 0 0 (Nat.le_refl _)).imp (fun h => by omega))
  rw [List.take_of_length_le (by rw [begI_length]; exact Nat.le_refl _)] at h
  obtain ⟨e, _, _, _, h4, h5⟩ := posTo_main s n hn
  have e1 : (begI s).countP (fun x => decide (x < (n : Int))) = (if (posTo s n).2 = 0 then (posTo s n).1 else (posTo s n).1 + 1) := by
    unfold begI; rw [count_int, h4]
  have e2 : (begI s).contains (n : Int) = decide ((posTo s n).2 = 0) := by
    unfold begI; rw [contains_int]; exact decide_eq_decide.2 h5
  rw [e1, e2] at h
  exact h

theorem below_more {B : Nat} {a w : World} (h : Below B a w) (n : Nat) : Below B a (w.drewN n) := ⟨h.os, h.tape, h.output, h.size, h.block⟩

set_option maxHeartbeats 1000000 in
theorem posOf_yes (s : ByteArray) (n : Nat) (w : World) (hs : s.size ≤ 2 ^ 30) (hok : okB s = true) (hn : n ≤ s.size) :
    Calls Try.prog 16 #[.string s, .int .i64 (n : Int)] w fun e w' => e = .returned (.tuple #[posV (posTo s n).1 (posTo s n).2, .bool true]) ∧ Below w.heap.size w w' := by
  have HT := Lib.hid (fun W => textOk_any s W (by omega))
  rw [hok] at HT
  clear hok
  have q1 : decide ((n : Int) < 0) = false := by simp
  have q2 : decide ((s.size : Int) < (n : Int)) = false := by simp; omega
  go_enter Try.func16, Try.ntmps16
  go_wp2_with fail
  refine (HT.out _).mono ?_
  rintro e w1 ⟨rfl, hb⟩
  have bx := (Box2.new w 26 (.int .i64 0) (.int .i64 0)).below hb (by simp)
  have hB1 : Below w.heap.size w w1 := ((Below.refl _ w).alloc (Nat.le_refl _) _).trans (hb.mono (by simp))
  have c0 := bx.cell0
  have c1 := bx.cell1
  have f0 := bx.frozen 0
  have f1 := bx.frozen 1
  go_wp2_with fail
  refine (lineBegins_any s _ hs).mono ?_
  rintro e w2 ⟨v, rfl, hv, hb2⟩
  obtain ⟨g, cap, rfl, hg1, hg2, hcs⟩ := begins_slice hv
  have hgw := bx.below hb2 (by have := hb.size; simp at this; omega)
  clear bx c0 c1 f0 f1 hv
  have c0 := hgw.cell0
  have c1 := hgw.cell1
  have f0 := hgw.frozen 0
  have f1 := hgw.frozen 1
  have hB2 : Below w.heap.size w w2 := hB1.trans (hb2.mono hB1.size)
  have HS := Lib.hid (search_begins s g cap n w2 hs hn hcs)
  obtain ⟨ee, hx, hx2, hx3, hx4, hx5⟩ := posTo_main s n hn
  have hlen : (posTo s n).1 < (lines s).length := (List.getElem?_eq_some_iff.1 hx).1
  have hcell := hcs (posTo s n).1 hlen
  rw [begI_get s _ hlen, (List.getElem?_eq_some_iff.1 hx).2] at hcell
  simp only at hcell
  have hll := lines_length s
  clear hx hx3 hcs hx4 hx5
  generalize (lines s).length = len at *
  generalize hP : posTo s n = P at *
  have HP := Lib.hid hP
  clear hP
  obtain ⟨a, b⟩ := P
  simp only at HS hcell hlen hx2
  by_cases hz : b = 0
  · subst hz
    simp only [if_true, decide_true] at HS
    go_wp2_with fail
    refine HS.out.mono ?_
    rintro e w3 ⟨rfl, q, rfl⟩
    go_wp2
    have b2 := Box2.set (W := w2.drewN q) hgw (.int .i64 (a : Int)) (.int .i64 0)
    refine bodyPost_ret (v := .tuple #[posV a 0, .bool true]) (by simp [results, Try.results16, go_sem, posV, b2.cell0, b2.cell1]) rfl ⟨by rw [HP.out]; rfl, below_set2 (below_more hB2 q) (Nat.le_refl _) _ _⟩
  · have hcb : w2.cell? ⟨g, a, none⟩ = some (.int .i64 ((n : Int) - (b : Int))) := by rw [hcell]; congr 2; omega
    clear hcell
    simp only [hz, if_false, decide_false] at HS
    go_wp2_with fail
    refine HS.out.mono ?_
    rintro e w3 ⟨rfl, q, rfl⟩
    go_wp2
    have e3 : (n : Int) - ((n : Int) - (b : Int)) = (b : Int) := by omega
    rw [e3]
    have b2 := Box2.set (W := w2.drewN q) hgw (.int .i64 (a : Int)) (.int .i64 (b : Int))
    refine bodyPost_ret (v := .tuple #[posV a b, .bool true]) (by simp [results, Try.results16, go_sem, posV, b2.cell0, b2.cell1]) rfl ⟨by rw [HP.out], below_set2 (below_more hB2 q) (Nat.le_refl _) _ _⟩

end Go.Proofs.Ytnpcohbbjfjjaaa
