/-
  Lists of texts in memory: the contracts of laws.szStringS, laws.toStringS, laws.eqStringS.
-/
import Derived.Test.YtaclndbilpaboaaDoorBase
namespace Go.Proofs.YtaclndbilpaboaaDoor
open Go.RowKit

theorem infoStr : (Tryd.prog.info? 9).map (fun i => (i.zero, i.size, i.bytes)) = some (some (.string ByteArray.empty), 1, 16) := by kernel_rfl
/-- A slice of texts that came in. -/
def IsStrs (w : World) (a : Option Addr) (len : Nat) (ss : List ByteArray) : Prop := ss.length = len ∧ len ≤ maxLen ∧ SlIs w a (ss.map strV) ∧ ∀ s ∈ ss, s.size ≤ maxLen
theorem isStrs_nil (w : World) : IsStrs w none 0 [] := ⟨rfl, by simp [maxLen], .inl rfl, by simp⟩
theorem isStrs_of {w : World} {a : Addr} {len cap : Nat} {ss : List ByteArray} (hl : len ≤ cap) (hm : cap ≤ maxLen) (hz : ss.length = cap) (hc : ∀ i, i < ss.length → w.cell? (a.add i) = some (.string (ss.getD i ByteArray.empty))) (hs : ∀ s ∈ ss, s.size ≤ maxLen) :
    IsStrs w (some a) len (ss.take len) := by
  refine ⟨by simp; omega, by omega, ?_, fun s h => hs s (List.mem_of_mem_take h)⟩
  by_cases h0 : len = 0
  · subst h0; exact .inl (by simp)
  · obtain ⟨b, off, spot⟩ := a
    have hspot : spot = none := by simpa [Addr.add] using World.cell?_spot (hc 0 (by omega))
    subst hspot
    have hb : b < w.heap.size := by
      have h1 := hc 0 (by omega)
      rcases Nat.lt_or_ge b w.heap.size with h | h
      · exact h
      · simp [World.cell?, Addr.add, Array.getElem?_eq_none h] at h1
    refine .inr ⟨b, off, rfl, hb, fun j u hu => ?_⟩
    have hj : j < len := by
      have := (List.getElem?_eq_some_iff.1 hu).1
      simp at this
      omega
    have h2 := hc j (by omega)
    rw [Go.WideShapes.add_plain] at h2
    rw [h2]
    rw [List.getElem?_map, List.getElem?_take_of_lt hj, List.getElem?_eq_getElem (by omega)] at hu
    simp [strV] at hu
    rw [← hu]
    simp [List.getD, show j < ss.length from by omega]

/-- How many bytes, and one more for each. -/
def tot (ss : List ByteArray) : Nat := (ss.map (fun s => s.size + 1)).sum
theorem tot_take_succ (ss : List ByteArray) (k : Nat) (h : k < ss.length) : tot (ss.take (k + 1)) = tot (ss.take k) + (ss[k].size + 1) := by
  unfold tot; rw [List.take_succ_eq_append_getElem h, List.map_append, List.sum_append]; simp
theorem tot_take_le (ss : List ByteArray) (k : Nat) : tot (ss.take k) ≤ tot ss := by
  have h : tot ss = tot (ss.take k) + tot (ss.drop k) := by
    unfold tot; rw [← List.sum_append, ← List.map_append, List.take_append_drop]
  omega
theorem length_le_tot (ss : List ByteArray) : ss.length ≤ tot ss := by
  unfold tot
  induction ss with
  | nil => simp
  | cons s ss ih => simp; omega

/-- What is left is told, and it tells that the texts are not too many. -/
def LeftOk (ss : List ByteArray) (left : Int) (w : World) (e : Ending) (w' : World) : Prop :=
  ∃ r : Int, e = .returned (.int .i64 r) ∧ (0 ≤ r → (tot ss : Int) ≤ left) ∧ w = w'

/-- What is left is told, to the number. -/
def LeftEq (ss : List ByteArray) (left : Int) (w : World) (e : Ending) (w' : World) : Prop :=
  ∃ r : Int, e = .returned (.int .i64 r) ∧ (0 ≤ r → r + (tot ss : Int) = left) ∧ w = w'

set_option maxHeartbeats 1000000 in
/-- Two slices that hold the same texts are told to be the same. -/
theorem eqStringS_same (A B : Option Addr) (c d : Nat) (ss : List ByteArray) (w : World) (hl : ss.length ≤ 2 ^ 40) (hA : SlIs w A (ss.map strV)) (hB : SlIs w B (ss.map strV)) :
    Calls Tryd.prog 14 #[.slice A ss.length c, .slice B ss.length d] w fun e w' => e = .returned (.bool true) ∧ Below w.heap.size w w' := by
  have q0 : ((ss.length : Int) != (ss.length : Int)) = false := by simp
  go_enter Tryd.func14, Tryd.ntmps14
  go_wp2
  go_loopw [5] (fun i wr => ∃ k : Nat, k ≤ ss.length ∧ i = .int .i64 k ∧ ∃ n, wr = w.drewN n)
    (fun i _ => ss.length - (intOf i).toNat)
  case atStart => exact ⟨0, Nat.zero_le _, rfl, 0, rfl⟩
  case round =>
    obtain ⟨k, hk, rfl, n, rfl⟩ := hrel
    by_cases hlt : k < ss.length
    · obtain ⟨g, off, rfl, hg, hc⟩ := hA.at_ (k := k) (by simpa using hlt)
      obtain ⟨g', off', rfl, hg', hc'⟩ := hB.at_ (k := k) (by simpa using hlt)
      simp only [List.getElem_map, strV] at hc hc'
      generalize ss[k] = t at *
      have hx : (k : Int) < (ss.length : Int) := by omega
      go_wp2
      go_quiet (fail)
      go_wp2
      go_roundw
      case rel => exact ⟨k + 1, by omega, by go_num, n + nq, rfl⟩
      case measure => simp [intOf]; omega
    · go_wp2
      go_ret
      exact ⟨rfl, below_draws n⟩

end Go.Proofs.YtaclndbilpaboaaDoor
