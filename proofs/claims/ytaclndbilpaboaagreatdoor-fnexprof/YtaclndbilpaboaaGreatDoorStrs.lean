/-
  Lists of texts in memory: the contracts of laws.szStringS, laws.toStringS, laws.eqStringS.
-/
import Derived.Test.YtaclndbilpaboaaGreatDoorBase
namespace Go.Proofs.YtaclndbilpaboaaGreatDoor
open Go.RowKit

theorem infoStr : (Tryz.prog.info? 9).map (fun i => (i.zero, i.size, i.bytes)) = some (some (.string ByteArray.empty), 1, 16) := by kernel_rfl
/-- A slice of texts that came in. -/
def IsStrs (w : World) (a : Option Addr) (len : Nat) (ss : List ByteArray) : Prop := ss.length = len ∧ len ≤ maxLen ∧ SlIs w a (ss.map strV) ∧ ∀ s ∈ ss, s.size ≤ maxLen
theorem isStrs_nil (w : World) : IsStrs w none 0 [] := ⟨rfl, by simp [maxLen], .inl rfl, by simp⟩
theorem isStrs_of {w : World} {a : Addr} {len cap : Nat} {ss : List ByteArray} (hl : len ≤ cap) (hm : cap ≤ maxLen) (hz : ss.length = cap) (hc : ∀ i, i < ss.length → w.cell? (a.add i) = some (.string (ss.getD i ByteArray.empty))) (hs : ∀ s ∈ ss, s.size ≤ maxLen) :
    IsStrs w (some a) len (ss.take len) := by
  refine ⟨by simp; omega, by omega, ?_, fun s h => hs s (List.mem_of_mem_take h)⟩
  by_cases h0 : len = 0
  · subst h0; exact .inl (by simp)
  · obtain ⟨b, off, spot⟩ := a
    have hspot : spot = none := by simpa [Addr.add] using World.cell?_spot (hc 0 (by omega))
    subst hspot
    have hb : b < w.heap.size := by
      have h1 := hc 0 (by omega)
      rcases Nat.lt_or_ge b w.heap.size with h | h
      · exact h
      · simp [World.cell?, Addr.add, Array.getElem?_eq_none h] at h1
    refine .inr ⟨b, off, rfl, hb, fun j u hu => ?_⟩
    have hj : j < len := by
      have := (List.getElem?_eq_some_iff.1 hu).1
      simp at this
      omega
    have h2 := hc j (by omega)
    rw [Go.WideShapes.add_plain] at h2
    rw [h2]
    rw [List.getElem?_map, List.getElem?_take_of_lt hj, List.getElem?_eq_getElem (by omega)] at hu
    simp [strV] at hu
    rw [← hu]
    simp [List.getD, show j < ss.length from by omega]

/-- How many bytes, and one more for each. -/
def tot (ss : List ByteArray) : Nat := (ss.map (fun s => s.size + 1)).sum
theorem tot_take_succ (ss : List ByteArray) (k : Nat) (h : k < ss.length) : tot (ss.take (k + 1)) = tot (ss.take k) + (ss[k].size + 1) := by
  unfold tot; rw [List.take_succ_eq_append_getElem h, List.map_append, List.sum_append]; simp
theorem tot_take_le (ss : List ByteArray) (k : Nat) : tot (ss.take k) ≤ tot ss := by
  have h : tot ss = tot (ss.take k) + tot (ss.drop k) := by
    unfold tot; rw [← List.sum_append, ← List.map_append, List.take_append_drop]
  omega
theorem length_le_tot (ss : List ByteArray) : ss.length ≤ tot ss := by
  unfold tot
  induction ss with
  | nil => simp
  | cons s ss ih => simp; omega

/-- What is left is told, and it tells that the texts are not too many. -/
def LeftOk (ss : List ByteArray) (left : Int) (w : World) (e : Ending) (w' : World) : Prop :=
  ∃ r : Int, e = .returned (.int .i64 r) ∧ (0 ≤ r → (tot ss : Int) ≤ left) ∧ w = w'

/-- What is left is told, to the number. -/
def LeftEq (ss : List ByteArray) (left : Int) (w : World) (e : Ending) (w' : World) : Prop :=
  ∃ r : Int, e = .returned (.int .i64 r) ∧ (0 ≤ r → r + (tot ss : Int) = left) ∧ w = w'

set_option maxHeartbeats 1000000 in
theorem szStringS_eq (A : Option Addr) (c n : Nat) (left : Int) (ss : List ByteArray) (w : World) (hss : IsStrs w A n ss) (h0 : 0 ≤ left) (h1 : left ≤ 2 ^ 40) :
    Calls Tryz.prog 8 #[.slice A n c, .int .i64 left] w (LeftEq ss left w) := by
  obtain ⟨hn, hm, hA, hsz⟩ := hss
  unfold maxLen at hm hsz
  have HN := Lib.hid hn
  have HA := Lib.hid hA
  have HZ := Lib.hid hsz
  clear hn hA hsz
  by_cases hbig : left < n
  · have q1 : left - (n : Int) < 0 := by omega
    go_enter Tryz.func8, Tryz.ntmps8
    go_wp2
    go_ret
    exact ⟨_, rfl, fun h => absurd h (by decide), rfl⟩
  · have q1 : ¬ (left - (n : Int) < 0) := by omega
    go_enter Tryz.func8, Tryz.ntmps8
    go_wp2
    go_loop [1, 5] (fun d i => ∃ (k : Nat) (r : Int), k ≤ n ∧ 0 ≤ r ∧ i = .int .i64 k ∧ d = .int .i64 r ∧ r + (tot (ss.take k) : Int) + ((n - k : Nat) : Int) = left) (fun _ i => n - (intOf i).toNat)
    case atStart => exact ⟨0, left - n, Nat.zero_le _, by omega, rfl, rfl, by simp [tot]⟩
    case round =>
      obtain ⟨k, r, hk, hr0, rfl, rfl, heq⟩ := hrel
      by_cases hlt : k < n
      · have hkl : k < ss.length := by rw [HN.out]; exact hlt
        obtain ⟨g, off, rfl, hg, hc⟩ := HA.out.at_ (k := k) (by rw [List.length_map, HN.out]; exact hlt)
        simp only [List.getElem_map, strV] at hc
        have hsk := HZ.out ss[k] (List.getElem_mem _)
        have hts := tot_take_succ ss k hkl
        generalize ss[k] = t at *
        have hrl : r ≤ left := by omega
        have HQ := Lib.hid heq
        have HTS := Lib.hid hts
        clear heq hts
        by_cases hneg : r - (t.size : Int) < 0
        · go_wp2
          go_ret
          exact ⟨_, rfl, fun h => absurd h (by decide), rfl⟩
        · go_wp2
          go_round
          case rel => exact ⟨k + 1, r - t.size, by omega, by omega, by go_num, rfl, by have := HQ.out; have := HTS.out; omega⟩
          case measure => simp [intOf]; omega
      · have HQ := Lib.hid heq
        clear heq
        go_wp2
        go_ret
        refine ⟨r, rfl, fun _ => ?_, rfl⟩
        have := HQ.out
        rw [List.take_of_length_le (by rw [HN.out]; omega)] at this
        omega

theorem szStringS_any (A : Option Addr) (c n : Nat) (left : Int) (ss : List ByteArray) (w : World) (hss : IsStrs w A n ss) (h0 : 0 ≤ left) (h1 : left ≤ 2 ^ 40) :
    Calls Tryz.prog 8 #[.slice A n c, .int .i64 left] w (LeftOk ss left w) :=
  (szStringS_eq A c n left ss w hss h0 h1).mono fun _ _ ⟨r, h1, h2, h3⟩ => ⟨r, h1, fun h => by have := h2 h; omega, h3⟩
set_option maxHeartbeats 1000000 in
/-- A copy of one's own. -/
theorem toStringS_any (A : Option Addr) (c : Nat) (ss : List ByteArray) (w : World) (hl : ss.length ≤ 2 ^ 40) (hA : SlIs w A (ss.map strV)) :
    Calls Tryz.prog 11 #[.slice A ss.length c] w (Makes w 9 (ss.map strV)) := by
  have hmk := fun W => run_make_row' (P := Tryz.prog) 25 9 (.string ByteArray.empty) 16 Tryz.underlying25 infoStr rfl .i64 .i64 ss.length (by omega) (by omega) W
  go_enter Tryz.func11, Tryz.ntmps11
  go_wp2
  go_loopw [4] (fun i wr => ∃ k : Nat, k ≤ ss.length ∧ i = .int .i64 k ∧ wr.ownsRow w.heap.size 9 1 (.slice (some ⟨w.heap.size, 0, none⟩) ss.length ss.length) ss.length ((ss.take k).map strV ++ List.replicate (ss.length - k) (.string ByteArray.empty)) ∧ Below w.heap.size w wr)
    (fun i _ => ss.length - (intOf i).toNat)
  case atStart => exact ⟨0, Nat.zero_le _, rfl, by simpa using own_made w (.string ByteArray.empty) ss.length (by unfold maxLen; omega) 9, (Below.refl _ w).alloc (Nat.le_refl _) _⟩
  case round =>
    obtain ⟨k, hk, rfl, hrow, hB⟩ := hrel
    clear hmk
    by_cases hlt : k < ss.length
    · obtain ⟨g, off, rfl, hg, hc⟩ := hA.at_ (k := k) (by simpa using hlt)
      simp only [List.getElem_map, strV] at hc
      have hcr := (hB.cell (p := ⟨g, off + k, none⟩) hg).trans hc
      have hd : wr.cell? ⟨w.heap.size, k, none⟩ = some (.string ByteArray.empty) := by
        rw [hrow.cellAt k (by omega), List.getElem?_append_right (by simp; omega)]
        rw [List.getElem?_replicate]
        simp
        omega
      have hf := hrow.frozenAt k
      have HR := Lib.hid hrow
      have HT := Lib.hid (List.take_succ_eq_append_getElem hlt)
      clear hrow hc
      generalize ss[k] = t at *
      go_wp2
      go_roundw
      case rel =>
        refine ⟨k + 1, by omega, by go_num, ?_, hB.setCell (p := ⟨w.heap.size, k, none⟩) (Nat.le_refl _) _⟩
        have h2 := (HR.out.stored k (.string t)).1
        rw [show ((ss.take k).map strV ++ List.replicate (ss.length - k) (Value.string ByteArray.empty)).set k (.string t) = (ss.take (k + 1)).map strV ++ List.replicate (ss.length - (k + 1)) (.string ByteArray.empty) from ?_] at h2
        · exact h2
        · have hl2 : ((ss.take k).map strV).length = k := by simp; omega
          obtain ⟨m, hm⟩ : ∃ m, ss.length - k = m + 1 := ⟨ss.length - k - 1, by omega⟩
          rw [List.set_append_right _ _ (by omega), hl2, Nat.sub_self, hm, List.replicate_succ, List.set_cons_zero, HT.out, List.map_append, List.append_assoc, show ss.length - (k + 1) = m from by omega]
          rfl
      case measure => simp [intOf]; omega
    · have HR := Lib.hid hrow
      clear hrow
      go_wp2
      go_ret
      refine ⟨_, rfl, ?_, hB⟩
      have h2 := HR.out
      obtain rfl : ss.length = k := by omega
      rw [List.take_length, Nat.sub_self, List.replicate_zero, List.append_nil] at h2
      rw [List.length_map]
      exact h2

set_option maxHeartbeats 1000000 in
/-- Two slices that hold the same texts are told to be the same. -/
theorem eqStringS_same (A B : Option Addr) (c d : Nat) (ss : List ByteArray) (w : World) (hl : ss.length ≤ 2 ^ 40) (hA : SlIs w A (ss.map strV)) (hB : SlIs w B (ss.map strV)) :
    Calls Tryz.prog 14 #[.slice A ss.length c, .slice B ss.length d] w fun e w' => e = .returned (.bool true) ∧ Below w.heap.size w w' := by
  have q0 : ((ss.length : Int) != (ss.length : Int)) = false := by simp
  go_enter Tryz.func14, Tryz.ntmps14
  go_wp2
  go_loopw [5] (fun i wr => ∃ k : Nat, k ≤ ss.length ∧ i = .int .i64 k ∧ ∃ n, wr = w.drewN n)
    (fun i _ => ss.length - (intOf i).toNat)
  case atStart => exact ⟨0, Nat.zero_le _, rfl, 0, rfl⟩
  case round =>
    obtain ⟨k, hk, rfl, n, rfl⟩ := hrel
    by_cases hlt : k < ss.length
    · obtain ⟨g, off, rfl, hg, hc⟩ := hA.at_ (k := k) (by simpa using hlt)
      obtain ⟨g', off', rfl, hg', hc'⟩ := hB.at_ (k := k) (by simpa using hlt)
      simp only [List.getElem_map, strV] at hc hc'
      generalize ss[k] = t at *
      have hx : (k : Int) < (ss.length : Int) := by omega
      go_wp2
      go_quiet (fail)
      go_wp2
      go_roundw
      case rel => exact ⟨k + 1, by omega, by go_num, n + nq, rfl⟩
      case measure => simp [intOf]; omega
    · go_wp2
      go_ret
      exact ⟨rfl, below_draws n⟩

end Go.Proofs.YtaclndbilpaboaaGreatDoor
