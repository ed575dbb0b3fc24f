/-
  The contracts of the helpers of the exact laws over lists of numbers: laws.toIntS, laws.eqIntS, laws.markIntS, laws.heldIntS.
-/
import Derived.Test.YtabignplhkbcpaaGreatDoorGB
namespace Go.Proofs.YtabignplhkbcpaaGreatDoor
open Go.RowKit

def intV (z : Int) : Value := .int .i64 z
theorem infoInt : (Tryz.prog.info? 3).map (fun i => (i.zero, i.size, i.bytes)) = some (some (.int .i64 0), 1, 8) := by kernel_rfl

/-- A slice of numbers that came in. -/
def IsInts (w : World) (a : Option Addr) (len : Nat) (zs : List Int) : Prop := zs.length = len ∧ len ≤ maxLen ∧ SlIs w a (zs.map intV) ∧ ∀ z ∈ zs, (Lit.int .i64 z).wf = true
theorem isInts_nil (w : World) : IsInts w none 0 [] := ⟨rfl, by simp [maxLen], .inl rfl, by simp⟩
theorem isInts_of {w : World} {a : Addr} {len cap : Nat} {zs : List Int} (hl : len ≤ cap) (hm : cap ≤ maxLen) (hz : zs.length = cap) (hc : ∀ i, i < zs.length → w.cell? (a.add i) = some (.int .i64 (zs.getD i 0))) (hw : ∀ z ∈ zs, (Lit.int .i64 z).wf = true) :
    IsInts w (some a) len (zs.take len) := by
  refine ⟨by simp; omega, by omega, ?_, fun z h => hw z (List.mem_of_mem_take h)⟩
  by_cases h0 : len = 0
  · subst h0; exact .inl (by simp)
  · obtain ⟨b, off, spot⟩ := a
    have hspot : spot = none := by simpa [Addr.add] using World.cell?_spot (hc 0 (by omega))
    subst hspot
    have hb : b < w.heap.size := by
      have h1 := hc 0 (by omega)
      rcases Nat.lt_or_ge b w.heap.size with h | h
      · exact h
      · simp [World.cell?, Addr.add, Array.getElem?_eq_none h] at h1
    refine .inr ⟨b, off, rfl, hb, fun j u hu => ?_⟩
    have hj : j < len := by
      have := (List.getElem?_eq_some_iff.1 hu).1
      simp at this
      omega
    have h2 := hc j (by omega)
    rw [Go.WideShapes.add_plain] at h2
    rw [h2]
    rw [List.getElem?_map, List.getElem?_take_of_lt hj, List.getElem?_eq_getElem (by omega)] at hu
    simp [intV] at hu
    rw [← hu]
    simp [List.getD, show j < zs.length from by omega]


end Go.Proofs.YtabignplhkbcpaaGreatDoor
