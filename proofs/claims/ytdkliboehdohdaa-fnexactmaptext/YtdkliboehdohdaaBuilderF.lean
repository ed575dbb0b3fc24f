/-
  A builder beside which other boxes lie: what is written stands behind what was there, and those boxes stay as they were.
-/
import Derived.Test.YtdkliboehdohdaaBuilder
import Derived.Test.YtdkliboehdohdaaMapRows
namespace Go.Proofs.Ytdkliboehdohdaa
open Go.RowKit

/-- A builder at b whose letters lie behind B2. -/
def BdF (b B2 : Nat) (l : List UInt8) (w : World) : Prop :=
  b < B2 ∧ B2 ≤ w.heap.size ∧ ∃ p v, (p = .pointer none ∨ p = .pointer (some ⟨b, 0, none⟩)) ∧ w.heap[b]? = some (.cells #[p, v] 54 (0, 0)) ∧ w.ownsRow B2 5 1 v (Lib.byteCells l).length (Lib.byteCells l)
/-- All boxes ahead of B2 but that one are as they were. -/
def NotU8 (w : World) (i : Nat) : Prop := ∀ cur z, w.heap[i]? ≠ some (.cells cur 5 z)
/-- So are all boxes that hold no letters. -/
def KeptF (b B2 : Nat) (w w' : World) : Prop := Below b w w' ∧ (∀ i, i < B2 → i ≠ b → w'.heap[i]? = w.heap[i]?) ∧ ∀ i, i < w.heap.size → i ≠ b → NotU8 w i → w'.heap[i]? = w.heap[i]?
theorem KeptF.refl (b B2 : Nat) (w : World) : KeptF b B2 w w := ⟨Below.refl b w, fun _ _ _ => rfl, fun _ _ _ _ => rfl⟩
theorem KeptF.trans {b B2 : Nat} {w w' w'' : World} (h : KeptF b B2 w w') (h2 : KeptF b B2 w' w'') : KeptF b B2 w w'' := ⟨h.1.trans h2.1, fun i h3 h4 => (h2.2.1 i h3 h4).trans (h.2.1 i h3 h4), fun i h3 h4 h5 => (h2.2.2 i (Nat.lt_of_lt_of_le h3 h.1.size) h4 (fun cur z e => h5 cur z ((h.2.2 i h3 h4 h5).symm.trans e))).trans (h.2.2 i h3 h4 h5)⟩
theorem KeptF.below {b B2 : Nat} {w w' : World} (h : Below w.heap.size w w') (hb : b ≤ w.heap.size) (hB : B2 ≤ w.heap.size) : KeptF b B2 w w' := ⟨h.mono hb, fun i h3 _ => h.block i (by omega), fun i h3 _ _ => h.block i h3⟩
theorem own_apart {w : World} {B2 b n : Nat} {t : TypeId} {v : Value} {xs : List Value} (h : w.ownsRow B2 t 1 v n xs) (hb : b < B2) : v.ownBlock ≠ some b := by
  rcases h.2 with ⟨rfl, _⟩ | ⟨g, cap, cur, rfl, hg, _⟩
  · simp [Value.ownBlock]
  · simp only [Value.ownBlock]
    intro e
    injection e with e
    omega
theorem own_notU8 {w : World} {B2 i n : Nat} {v : Value} {xs : List Value} (h : w.ownsRow B2 5 1 v n xs) (hu : NotU8 w i) : v.ownBlock ≠ some i := by
  rcases h.2 with ⟨rfl, _⟩ | ⟨g, cap, cur, rfl, _, hg, _⟩
  · simp [Value.ownBlock]
  · simp only [Value.ownBlock]
    intro e
    injection e with e
    subst e
    exact hu _ _ hg
theorem BdF.bd {b B2 B : Nat} {l : List UInt8} {w : World} (h : BdF b B2 l w) (hB : B ≤ b) : Bd B b l w := by
  obtain ⟨h1, _, p, v, hp, hb, ho⟩ := h
  rcases hp with rfl | rfl
  · exact .inl ⟨hB, v, hb, ho.mono (by omega), own_apart ho h1⟩
  · exact .inr ⟨hB, v, hb, ho.mono (by omega), own_apart ho h1⟩
theorem BdF.below {b B2 : Nat} {l : List UInt8} {w w' : World} (h : BdF b B2 l w) (hb : Below w.heap.size w w') : BdF b B2 l w' := by
  obtain ⟨h1, h2, p, v, hp, hk, ho⟩ := h
  exact ⟨h1, Nat.le_trans h2 hb.size, p, v, hp, (hb.block b (by omega)).trans hk, own_below ho hb⟩
theorem grown_refl (w : World) (row : Option Nat) : w.grownBy w row := ⟨rfl, rfl, rfl, Nat.le_refl _, fun _ _ _ => rfl⟩
theorem KeptF.put {b B2 j : Nat} {w : World} (v : Value) : KeptF b B2 w (w.setCell ⟨b, j, none⟩ v) :=
  ⟨(Below.refl b w).setCell (p := ⟨b, j, none⟩) (Nat.le_refl _) _, fun i _ hi => Below.heap_setCell w ⟨b, j, none⟩ v i hi, fun i _ hi _ => Below.heap_setCell w ⟨b, j, none⟩ v i hi⟩

set_option maxHeartbeats 1000000 in
set_option maxRecDepth 100000 in
theorem copyCheckF_any (b B2 : Nat) (l : List UInt8) (w : World) (h : BdF b B2 l w) :
    Calls Try.prog 46 #[.pointer (some ⟨b, 0, none⟩)] w fun e w' => e = .returned (.tuple #[]) ∧ (∃ v, w'.heap[b]? = some (.cells #[.pointer (some ⟨b, 0, none⟩), v] 54 (0, 0)) ∧ w'.ownsRow B2 5 1 v (Lib.byteCells l).length (Lib.byteCells l)) ∧ KeptF b B2 w w' := by
  obtain ⟨j, hj, hjs⟩ := Option.map_eq_some_iff.1 sizeBd
  obtain ⟨h1, h2, p, v, hp, hk, ho⟩ := h
  have h0 : w.cell? ⟨b, 0, none⟩ = some p := by rw [Lib.cell_of_heap hk]; rfl
  have hsh : w.shape? b = some (54, 2) := by simp [World.shape?, hk]
  have hfz := Lib.frozen_of_heap hk 0
  have HK := Lib.hid hk
  have HO := Lib.hid ho
  clear hk ho
  rcases hp with rfl | rfl
  · go_enter Try.func46, Try.ntmps46
    go_wp2
    rw [Lib.run_to_unsafe w ⟨b, 0, none⟩ Try.underlying51 Try.underlying81 hj (by rw [hjs]; decide) hsh (Nat.zero_lt_succ 1)]
    simp only [Result.andThen]
    rw [Oper.upon_value]
    go_wp2
    rw [run_callFunc_extern Try.func56 (by kernel_rfl) (by kernel_rfl) (by kernel_rfl) (e := Extern.AbiNoEscape.same) (by kernel_rfl), Lib.run_noEscape]
    simp only [Result.andThen]
    rw [Oper.upon_value]
    go_wp2
    rw [Lib.run_from_unsafe w ⟨b, 0, none⟩ Try.underlying81 Try.underlying51 hj hsh liesBd]
    simp only [Result.andThen]
    rw [Oper.upon_value]
    go_wp2
    go_end0
    exact ⟨rfl, ⟨v, heap_setCell_same w b 0 _ _ _ HK.out, HO.out.kept (row := some b) (grown_put (grown_refl w _)) (.inr (own_apart HO.out h1))⟩, KeptF.put _⟩
  · go_enter Try.func46, Try.ntmps46
    go_wp2
    rw [Lib.run_neq_ptr_same w _ Try.underlying51 hj]
    go_wp2
    go_end0
    exact ⟨rfl, ⟨v, HK.out, HO.out⟩, KeptF.refl _ _ _⟩

set_option maxHeartbeats 2000000 in
set_option maxRecDepth 100000 in
theorem writeStringF_any (b B2 : Nat) (l : List UInt8) (s : ByteArray) (w : World) (h : BdF b B2 l w) (hlen : l.length + s.size ≤ 2 ^ 40) :
    Calls Try.prog 29 #[.pointer (some ⟨b, 0, none⟩), .string s] w fun e w' => e = .returned (.tuple #[.int .i64 (s.size : Int), .nilIface]) ∧ (BdF b B2 (l ++ s.data.toList) w' ∧ KeptF b B2 w w') := by
  obtain ⟨i0, hi, hz0, hz1, hz2⟩ := info_parts infoU8
  have hll : (Lib.byteCells l).length = l.length := Lib.byteCells_length l
  have HC := Lib.hid (copyCheckF_any b B2 l w h)
  have HL := Lib.hid hll
  have hbB := h.1
  have hBw := h.2.1
  clear h hll
  go_enter Try.func29, Try.ntmps29
  go_wp2_with fail
  refine HC.out.mono ?_
  rintro e w1 ⟨rfl, ⟨v, hbk, hown⟩, hb1⟩
  have hne := own_apart hown hbB
  have c0 : w1.cell? ⟨b, 0, none⟩ = some (.pointer (some ⟨b, 0, none⟩)) := by rw [Lib.cell_of_heap hbk]; rfl
  have c1 : w1.cell? ⟨b, 1, none⟩ = some v := by rw [Lib.cell_of_heap hbk]; rfl
  have hsz := hb1.1.size
  have hlt : b < w1.heap.size := by omega
  go_wp2_with (at_builtin; refine Lib.wpList_append_own_string _ rfl _ _ 52 9 rfl B2 5 i0 Try.underlying52 Try.underlying9 hi hz0 hz1 hz2 _ _ _ rfl hown s rfl ?c3 ?c4 ?c5 ?_)
  case c3 => rw [HL.out]; unfold maxLen; omega
  case c4 => rw [HL.out]; omega
  case c5 => omega
  intro v' w2 hown' hgrow _
  have hb2 : w2.heap[b]? = some (.cells #[.pointer (some ⟨b, 0, none⟩), v] 54 (0, 0)) := (hgrow.block b hlt (fun e => hne e.symm)).trans hbk
  have d0 : w2.cell? ⟨b, 0, none⟩ = some (.pointer (some ⟨b, 0, none⟩)) := by rw [Lib.cell_of_heap hb2]; rfl
  have d1 : w2.cell? ⟨b, 1, none⟩ = some v := by rw [Lib.cell_of_heap hb2]; rfl
  have f1 : w2.frozen? ⟨b, 1, none⟩ = false := Lib.frozen_of_heap hb2 1
  have hkeep : KeptF b B2 w1 w2 := ⟨⟨hgrow.os, hgrow.tape, hgrow.output, hgrow.size, fun i hi => hgrow.block i (by omega) (fun e => own_apart hown (b := i) (by omega) e.symm)⟩, fun i hi _ => hgrow.block i (by omega) (fun e => own_apart hown (b := i) hi e.symm), fun i hi _ hu => hgrow.block i hi (fun e => own_notU8 hown hu e.symm)⟩
  have hz2 := hgrow.size
  obtain ⟨ao, n', cap, hv⟩ : ∃ ao n' cap, v' = .slice ao n' cap := by
    rcases hown'.2 with ⟨hv, _⟩ | ⟨g, cap, cur, hv, _⟩
    · exact ⟨_, _, _, hv⟩
    · exact ⟨_, _, _, hv⟩
  subst hv
  have HO := Lib.hid hown'
  have HB2 := Lib.hid hb2
  clear hown' hgrow hown hb2
  go_wp2
  go_ret2
  refine ⟨rfl, ⟨hbB, by simp; omega, _, _, .inr rfl, heap_setCell_same w2 b 1 _ _ _ HB2.out, ?_⟩, (hb1.trans hkeep).trans (KeptF.put _)⟩
  have h3 := HO.out
  rw [strCells_eq] at h3
  have e1 : Lib.byteCells (l ++ s.data.toList) = Lib.byteCells l ++ Lib.byteCells s.data.toList := by simp [Lib.byteCells]
  rw [e1, List.length_append, Lib.byteCells_length s.data.toList, ← Lib.size_eq]
  exact h3.kept (row := some b) (grown_put (grown_refl w2 _)) (.inr (own_apart h3 hbB))

end Go.Proofs.Ytdkliboehdohdaa
