/-
  The contracts of the helpers of the exact laws over lists of numbers: laws.toIntS, laws.eqIntS, laws.markIntS, laws.heldIntS.
-/
import Derived.Test.YtaclndbilpaboaaGreatDoorBase
namespace Go.Proofs.YtaclndbilpaboaaGreatDoor
open Go.RowKit

def intV (z : Int) : Value := .int .i64 z
theorem infoInt : (Tryz.prog.info? 3).map (fun i => (i.zero, i.size, i.bytes)) = some (some (.int .i64 0), 1, 8) := by kernel_rfl

/-- A slice of numbers that came in. -/
def IsInts (w : World) (a : Option Addr) (len : Nat) (zs : List Int) : Prop := zs.length = len ∧ len ≤ maxLen ∧ SlIs w a (zs.map intV) ∧ ∀ z ∈ zs, (Lit.int .i64 z).wf = true
theorem isInts_nil (w : World) : IsInts w none 0 [] := ⟨rfl, by simp [maxLen], .inl rfl, by simp⟩
theorem isInts_of {w : World} {a : Addr} {len cap : Nat} {zs : List Int} (hl : len ≤ cap) (hm : cap ≤ maxLen) (hz : zs.length = cap) (hc : ∀ i, i < zs.length → w.cell? (a.add i) = some (.int .i64 (zs.getD i 0))) (hw : ∀ z ∈ zs, (Lit.int .i64 z).wf = true) :
    IsInts w (some a) len (zs.take len) := by
  refine ⟨by simp; omega, by omega, ?_, fun z h => hw z (List.mem_of_mem_take h)⟩
  by_cases h0 : len = 0
  · subst h0; exact .inl (by simp)
  · obtain ⟨b, off, spot⟩ := a
    have hspot : spot = none := by simpa [Addr.add] using World.cell?_spot (hc 0 (by omega))
    subst hspot
    have hb : b < w.heap.size := by
      have h1 := hc 0 (by omega)
      rcases Nat.lt_or_ge b w.heap.size with h | h
      · exact h
      · simp [World.cell?, Addr.add, Array.getElem?_eq_none h] at h1
    refine .inr ⟨b, off, rfl, hb, fun j u hu => ?_⟩
    have hj : j < len := by
      have := (List.getElem?_eq_some_iff.1 hu).1
      simp at this
      omega
    have h2 := hc j (by omega)
    rw [Go.WideShapes.add_plain] at h2
    rw [h2]
    rw [List.getElem?_map, List.getElem?_take_of_lt hj, List.getElem?_eq_getElem (by omega)] at hu
    simp [intV] at hu
    rw [← hu]
    simp [List.getD, show j < zs.length from by omega]

set_option maxHeartbeats 1000000 in
/-- A copy of one's own. -/
theorem toIntS_any (A : Option Addr) (c : Nat) (zs : List Int) (w : World) (hl : zs.length ≤ 2 ^ 40) (hA : SlIs w A (zs.map intV)) :
    Calls Tryz.prog 16 #[.slice A zs.length c] w (Makes w 3 (zs.map intV)) := by
  have hmk := fun W => run_make_row' (P := Tryz.prog) 37 3 (.int .i64 0) 8 Tryz.underlying37 infoInt rfl .i64 .i64 zs.length (by omega) (by omega) W
  go_enter Tryz.func16, Tryz.ntmps16
  go_wp2
  go_loopw [4] (fun i wr => ∃ k : Nat, k ≤ zs.length ∧ i = .int .i64 k ∧ wr.ownsRow w.heap.size 3 1 (.slice (some ⟨w.heap.size, 0, none⟩) zs.length zs.length) zs.length ((zs.take k).map intV ++ List.replicate (zs.length - k) (.int .i64 0)) ∧ Below w.heap.size w wr)
    (fun i _ => zs.length - (intOf i).toNat)
  case atStart => exact ⟨0, Nat.zero_le _, rfl, by simpa using own_made w (.int .i64 0) zs.length (by unfold maxLen; omega) 3, (Below.refl _ w).alloc (Nat.le_refl _) _⟩
  case round =>
    obtain ⟨k, hk, rfl, hrow, hB⟩ := hrel
    clear hmk
    by_cases hlt : k < zs.length
    · obtain ⟨g, off, rfl, hg, hc⟩ := hA.at_ (k := k) (by simpa using hlt)
      simp only [List.getElem_map, intV] at hc
      have hcr := (hB.cell (p := ⟨g, off + k, none⟩) hg).trans hc
      have hd : wr.cell? ⟨w.heap.size, k, none⟩ = some (.int .i64 0) := by
        rw [hrow.cellAt k (by omega), List.getElem?_append_right (by simp; omega)]
        rw [List.getElem?_replicate]
        simp
        omega
      have hf := hrow.frozenAt k
      have HR := Lib.hid hrow
      have HT := Lib.hid (List.take_succ_eq_append_getElem hlt)
      clear hrow hc
      generalize zs[k] = t at *
      go_wp2
      go_roundw
      case rel =>
        refine ⟨k + 1, by omega, by go_num, ?_, hB.setCell (p := ⟨w.heap.size, k, none⟩) (Nat.le_refl _) _⟩
        have h2 := (HR.out.stored k (.int .i64 t)).1
        rw [show ((zs.take k).map intV ++ List.replicate (zs.length - k) (Value.int .i64 0)).set k (.int .i64 t) = (zs.take (k + 1)).map intV ++ List.replicate (zs.length - (k + 1)) (.int .i64 0) from ?_] at h2
        · exact h2
        · have hl2 : ((zs.take k).map intV).length = k := by simp; omega
          obtain ⟨m, hm⟩ : ∃ m, zs.length - k = m + 1 := ⟨zs.length - k - 1, by omega⟩
          rw [List.set_append_right _ _ (by omega), hl2, Nat.sub_self, hm, List.replicate_succ, List.set_cons_zero, HT.out, List.map_append, List.append_assoc, show zs.length - (k + 1) = m from by omega]
          rfl
      case measure => simp [intOf]; omega
    · have HR := Lib.hid hrow
      clear hrow
      go_wp2
      go_ret
      refine ⟨_, rfl, ?_, hB⟩
      have h2 := HR.out
      obtain rfl : zs.length = k := by omega
      rw [List.take_length, Nat.sub_self, List.replicate_zero, List.append_nil] at h2
      rw [List.length_map]
      exact h2
set_option maxHeartbeats 1000000 in
/-- Two slices that hold the same numbers are told to be the same. -/
theorem eqIntS_same (A B : Option Addr) (c d : Nat) (zs : List Int) (w : World) (hl : zs.length ≤ 2 ^ 40) (hA : SlIs w A (zs.map intV)) (hB : SlIs w B (zs.map intV)) :
    Calls Tryz.prog 18 #[.slice A zs.length c, .slice B zs.length d] w fun e w' => e = .returned (.bool true) ∧ Below w.heap.size w w' := by
  have q0 : ((zs.length : Int) != (zs.length : Int)) = false := by simp
  go_enter Tryz.func18, Tryz.ntmps18
  go_wp2
  go_loopw [5] (fun i wr => ∃ k : Nat, k ≤ zs.length ∧ i = .int .i64 k ∧ ∃ n, wr = w.drewN n)
    (fun i _ => zs.length - (intOf i).toNat)
  case atStart => exact ⟨0, Nat.zero_le _, rfl, 0, rfl⟩
  case round =>
    obtain ⟨k, hk, rfl, n, rfl⟩ := hrel
    by_cases hlt : k < zs.length
    · obtain ⟨g, off, rfl, hg, hc⟩ := hA.at_ (k := k) (by simpa using hlt)
      obtain ⟨g', off', rfl, hg', hc'⟩ := hB.at_ (k := k) (by simpa using hlt)
      simp only [List.getElem_map, intV] at hc hc'
      generalize zs[k] = t at *
      have hx : (k : Int) < (zs.length : Int) := by omega
      go_wp2
      go_quiet (fail)
      go_wp2
      go_roundw
      case rel => exact ⟨k + 1, by omega, by go_num, n + nq, rfl⟩
      case measure => simp [intOf]; omega
    · go_wp2
      go_ret
      exact ⟨rfl, below_draws n⟩

end Go.Proofs.YtaclndbilpaboaaGreatDoor
