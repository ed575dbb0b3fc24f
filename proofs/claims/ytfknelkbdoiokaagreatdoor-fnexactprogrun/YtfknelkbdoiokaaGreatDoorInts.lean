/-
  The contracts of the helpers of the exact laws over lists of numbers: laws.toIntS, laws.eqIntS, laws.markIntS, laws.heldIntS.
-/
import Derived.Test.YtfknelkbdoiokaaGreatDoorGB
namespace Go.Proofs.YtfknelkbdoiokaaGreatDoor
open Go.RowKit

def intV (z : Int) : Value := .int .i64 z
theorem infoInt : (Tryz.prog.info? 3).map (fun i => (i.zero, i.size, i.bytes)) = some (some (.int .i64 0), 1, 8) := by kernel_rfl

/-- A slice of numbers that came in. -/
def IsInts (w : World) (a : Option Addr) (len : Nat) (zs : List Int) : Prop := zs.length = len ∧ len ≤ maxLen ∧ SlIs w a (zs.map intV) ∧ ∀ z ∈ zs, (Lit.int .i64 z).wf = true
theorem isInts_nil (w : World) : IsInts w none 0 [] := ⟨rfl, by simp [maxLen], .inl rfl, by simp⟩
theorem isInts_of {w : World} {a : Addr} {len cap : Nat} {zs : List Int} (hl : len ≤ cap) (hm : cap ≤ maxLen) (hz : zs.length = cap) (hc : ∀ i, i < zs.length → w.cell? (a.add i) = some (.int .i64 (zs.getD i 0))) (hw : ∀ z ∈ zs, (Lit.int .i64 z).wf = true) :
    IsInts w (some a) len (zs.take len) := by
  refine ⟨by simp; omega, by omega, ?_, fun z h => hw z (List.mem_of_mem_take h)⟩
  by_cases h0 : len = 0
  · subst h0; exact .inl (by simp)
  · obtain ⟨b, off, spot⟩ := a
    have hspot : spot = none := by simpa [Addr.add] using World.cell?_spot (hc 0 (by omega))
    subst hspot
    have hb : b < w.heap.size := by
      have h1 := hc 0 (by omega)
      rcases Nat.lt_or_ge b w.heap.size with h | h
      · exact h
      · simp [World.cell?, Addr.add, Array.getElem?_eq_none h] at h1
    refine .inr ⟨b, off, rfl, hb, fun j u hu => ?_⟩
    have hj : j < len := by
      have := (List.getElem?_eq_some_iff.1 hu).1
      simp at this
      omega
    have h2 := hc j (by omega)
    rw [Go.WideShapes.add_plain] at h2
    rw [h2]
    rw [List.getElem?_map, List.getElem?_take_of_lt hj, List.getElem?_eq_getElem (by omega)] at hu
    simp [intV] at hu
    rw [← hu]
    simp [List.getD, show j < zs.length from by omega]

set_option maxHeartbeats 1000000 in
/-- Two slices that hold the same numbers are told to be the same. -/
theorem eqIntS_same (A B : Option Addr) (c d : Nat) (zs : List Int) (w : World) (hl : zs.length ≤ 2 ^ 40) (hA : SlIs w A (zs.map intV)) (hB : SlIs w B (zs.map intV)) :
    Calls Tryz.prog 46 #[.slice A zs.length c, .slice B zs.length d] w fun e w' => e = .returned (.bool true) ∧ Below w.heap.size w w' := by
  have q0 : ((zs.length : Int) != (zs.length : Int)) = false := by simp
  go_enter Tryz.func46, Tryz.ntmps46
  go_wp2
  go_loopw [5] (fun i wr => ∃ k : Nat, k ≤ zs.length ∧ i = .int .i64 k ∧ ∃ n, wr = w.drewN n)
    (fun i _ => zs.length - (intOf i).toNat)
  case atStart => exact ⟨0, Nat.zero_le _, rfl, 0, rfl⟩
  case round =>
    obtain ⟨k, hk, rfl, n, rfl⟩ := hrel
    by_cases hlt : k < zs.length
    · obtain ⟨g, off, rfl, hg, hc⟩ := hA.at_ (k := k) (by simpa using hlt)
      obtain ⟨g', off', rfl, hg', hc'⟩ := hB.at_ (k := k) (by simpa using hlt)
      simp only [List.getElem_map, intV] at hc hc'
      generalize zs[k] = t at *
      have hx : (k : Int) < (zs.length : Int) := by omega
      go_wp2
      go_quiet (fail)
      go_wp2
      go_roundw
      case rel => exact ⟨k + 1, by omega, by go_num, n + nq, rfl⟩
      case measure => simp [intOf]; omega
    · go_wp2
      go_ret
      exact ⟨rfl, below_draws n⟩
def marksI (k n : Nat) : List Value := (List.range n).map (fun j => intV ((k + j : Nat) : Int))
theorem marksI_length (k n : Nat) : (marksI k n).length = n := by simp [marksI]
theorem marksI_get (k n j : Nat) (h : j < n) : (marksI k n)[j]'(by rw [marksI_length]; exact h) = .int .i64 ((k + j : Nat) : Int) := by simp [marksI, intV]
theorem marksI_succ (k n : Nat) : marksI k (n + 1) = marksI k n ++ [.int .i64 ((k + n : Nat) : Int)] := by simp [marksI, List.range_succ, intV]

set_option maxHeartbeats 1000000 in
/-- A slice that holds the marks is told to hold them. -/
theorem heldIntS_ok (A : Option Addr) (c k n : Nat) (w : World) (h0 : 0 < k) (hl : k + n ≤ 2 ^ 40) (hA : SlIs w A (marksI k n)) :
    Calls Tryz.prog 49 #[.slice A n c, .int .i64 (k : Int)] w fun e w' => e = .returned (.int .i64 ((k + n : Nat) : Int)) ∧ w = w' := by
  go_enter Tryz.func49, Tryz.ntmps49
  go_wp2
  go_loop [1, 5] (fun d i => ∃ j m : Nat, j ≤ n ∧ i = .int .i64 j ∧ d = .int .i64 (m : Int) ∧ m = k + j)
    (fun _ i => n - (intOf i).toNat)
  case atStart => exact ⟨0, k, Nat.zero_le _, rfl, rfl, rfl⟩
  case round =>
    obtain ⟨j, m, hj, rfl, rfl, hm⟩ := hrel
    by_cases hlt : j < n
    · obtain ⟨g, off, rfl, hg, hc⟩ := hA.at_ (k := j) (by rw [marksI_length]; exact hlt)
      rw [marksI_get k n j hlt, ← hm] at hc
      have hx : (j : Int) < (n : Int) := by omega
      have q1 : ((m : Int) != (m : Int)) = false := by simp
      have HM := Lib.hid hm
      have hmb : m ≤ 2 ^ 41 := by omega
      clear hm
      go_wp2
      go_round
      case rel => exact ⟨j + 1, m + 1, by omega, by go_num, by go_num, by have := HM.out; omega⟩
      case measure => simp [intOf]; omega
    · obtain rfl : n = j := by omega
      have HM := Lib.hid hm
      clear hm
      go_wp2
      go_ret
      exact ⟨ret_int (by rw [HM.out]; simp), rfl⟩

set_option maxHeartbeats 1000000 in
/-- The marks are put into a slice of one's own. -/
theorem markIntS_any (base : Nat) (A : Option Addr) (c k n : Nat) (xs : List Value) (w : World) (h0 : 0 < k) (hl : k + n ≤ 2 ^ 40) (hown : w.ownsRow base 3 1 (.slice A n c) n xs) (hint : ∀ u ∈ xs, ∃ z, u = Value.int .i64 z) :
    Calls Tryz.prog 48 #[.slice A n c, .int .i64 (k : Int)] w fun e w' => e = .returned (.int .i64 ((k + n : Nat) : Int)) ∧ w'.ownsRow base 3 1 (.slice A n c) n (marksI k n) ∧ Below base w w' := by
  go_enter Tryz.func48, Tryz.ntmps48
  go_wp2
  go_loopw [1, 5] (fun d i wr => ∃ j m : Nat, j ≤ n ∧ i = .int .i64 j ∧ d = .int .i64 (m : Int) ∧ m = k + j ∧ wr.ownsRow base 3 1 (.slice A n c) n (marksI k j ++ xs.drop j) ∧ Below base w wr)
    (fun _ i _ => n - (intOf i).toNat)
  case atStart => exact ⟨0, k, Nat.zero_le _, rfl, rfl, rfl, by simpa [marksI] using hown, Below.refl _ _⟩
  case round =>
    obtain ⟨j, m, hj, rfl, rfl, hm, hrow, hnx⟩ := hrel
    have hxl : xs.length = n := by have := hown.1; omega
    have HM := Lib.hid hm
    have hmb : m ≤ 2 ^ 41 := by omega
    clear hm
    by_cases hlt : j < n
    · obtain ⟨g, cap, hv, hbg, hgl⟩ := hrow.form (by omega)
      have hA : A = some ⟨g, 0, none⟩ := by injection hv
      subst hA
      have hcell : ∃ z, wr.cell? ⟨g, j, none⟩ = some (Value.int .i64 z) := by
        rw [hrow.cellAt j (by omega), List.getElem?_append_right (by rw [marksI_length]; exact Nat.le_refl _), marksI_length, Nat.sub_self, List.getElem?_drop, Nat.add_zero, List.getElem?_eq_getElem (by omega)]
        obtain ⟨s, hs⟩ := hint xs[j] (List.getElem_mem _)
        exact ⟨s, by rw [hs]⟩
      obtain ⟨s0, hc0⟩ := hcell
      have hf0 := hrow.frozenAt j
      have hx : (j : Int) < (n : Int) := by omega
      have HR := Lib.hid hrow
      have HX := Lib.hid hxl
      have HG := Lib.hid hv
      clear hrow hxl hv hown
      have HS := Lib.hid (marksI_succ k j)
      rw [← HM.out] at HS
      go_wp2
      go_roundw
      case rel =>
        refine ⟨j + 1, m + 1, by omega, by go_num, by go_num, by have := HM.out; omega, ?_, hnx.setCell (p := ⟨g, j, none⟩) hbg _⟩
        have h2 := (HR.out.stored j (.int .i64 (m : Int))).1
        rw [show (marksI k j ++ xs.drop j).set j (.int .i64 (m : Int)) = marksI k (j + 1) ++ xs.drop (j + 1) from ?_] at h2
        · exact h2
        · rw [List.set_append_right _ _ (by rw [marksI_length]; exact Nat.le_refl _), marksI_length, Nat.sub_self, HS.out, List.drop_eq_getElem_cons (by rw [HX.out]; exact hlt), List.set_cons_zero, List.append_assoc]
          rfl
      case measure => simp [intOf]; omega
    · obtain rfl : n = j := by omega
      have HR := Lib.hid hrow
      clear hrow hown
      have HX := Lib.hid hxl
      clear hxl
      go_wp2
      go_ret
      exact ⟨ret_int (by rw [HM.out]), by have := HR.out; rw [List.drop_eq_nil_of_le (by rw [HX.out]; exact Nat.le_refl _), List.append_nil] at this; exact this, hnx⟩

end Go.Proofs.YtfknelkbdoiokaaGreatDoor
