/-
  The text of a list of Seg: what stands for each of them, behind the one ahead.
-/
import Derived.Test.YtdkliboehdohdaaMapLook
import Derived.Test.YtdkliboehdohdaaNumsText
namespace Go.Proofs.Ytdkliboehdohdaa
open Go.RowKit

theorem L_injM {a b : ByteArray} (h : L a = L b) : a = b := ByteArray.ext (Array.toList_inj.1 h)
/-- The one ahead. -/
def prevG (xs : List Sg) (k : Nat) : Sg := if k = 0 then (0, 0, 0, 0) else getG xs (k - 1)
/-- How far the one ahead begins in this one's line. -/
def colG (p x : Sg) : Int := if p.1 < x.1 then 0 else p.2.1
/-- By how much it is further on. -/
def turnG (p x : Sg) : List Int := [x.2.1 - colG p x, x.2.2.1 - p.2.2.1, x.2.2.2 - p.2.2.2]
/-- What stands ahead of its numbers. -/
def markG (first : Bool) (p x : Sg) : List UInt8 := List.replicate (x.1 - p.1).toNat 61 ++ (if p.1 < x.1 then [] else if first = true then [] else [44])
def pieceG (first : Bool) (p x : Sg) : List UInt8 := markG first p x ++ L (numsT (turnG p x))
def mapN (xs : List Sg) : Nat → List UInt8
  | 0 => []
  | k + 1 => mapN xs k ++ pieceG (k == 0) (prevG xs k) (getG xs k)
/-- The text of all. -/
def mapT (xs : List Sg) : ByteArray := if segsOk xs = true then ⟨(mapN xs xs.length).toArray⟩ else ByteArray.empty
theorem mapT_no {xs : List Sg} (h : segsOk xs = false) : mapT xs = ByteArray.empty := by simp [mapT, h]
theorem mapT_ok {xs : List Sg} (h : segsOk xs = true) : mapT xs = ⟨(mapN xs xs.length).toArray⟩ := by simp [mapT, h]
theorem placeG_iff {a b : Int} : placeG a b = true ↔ (0 ≤ a ∧ a < 16 ∧ 0 ≤ b ∧ b < 120) := by
  simp [placeG]
theorem segsOk_place {xs : List Sg} (h : segsOk xs = true) {k : Nat} (hk : k < xs.length) : (0 ≤ (getG xs k).1 ∧ (getG xs k).1 < 16 ∧ 0 ≤ (getG xs k).2.1 ∧ (getG xs k).2.1 < 120) ∧ (0 ≤ (getG xs k).2.2.1 ∧ (getG xs k).2.2.1 < 16 ∧ 0 ≤ (getG xs k).2.2.2 ∧ (getG xs k).2.2.2 < 120) := by
  have h1 := segsOk_step h hk
  simp only [stepG, Bool.and_eq_true] at h1
  exact ⟨placeG_iff.1 h1.1, placeG_iff.1 h1.2.1⟩
/-- The one ahead is in its bounds, and not in a later line. -/
theorem prev_place {xs : List Sg} (h : segsOk xs = true) {k : Nat} (hk : k < xs.length) : (0 ≤ (prevG xs k).1 ∧ (prevG xs k).1 ≤ (getG xs k).1 ∧ 0 ≤ (prevG xs k).2.1 ∧ (prevG xs k).2.1 < 120) ∧ (0 ≤ (prevG xs k).2.2.1 ∧ (prevG xs k).2.2.1 < 16 ∧ 0 ≤ (prevG xs k).2.2.2 ∧ (prevG xs k).2.2.2 < 120) := by
  have h0 := segsOk_place h hk
  unfold prevG
  split
  · simp only
    omega
  · have h1 := segsOk_place h (k := k - 1) (by omega)
    have h2 := lessG_iff.1 (segsOk_lt h (a := k - 1) (b := k) (by omega) hk)
    omega
theorem numsT_size (zs : List Int) : (numsT zs).size ≤ 6 * zs.length := by
  unfold numsT
  split
  · have := catL_length zs
    show (catL zs).toArray.size ≤ _
    simpa using this
  · simp
theorem markG_len {f : Bool} {p x : Sg} (h : x.1 - p.1 ≤ 16) : (markG f p x).length ≤ 17 := by
  unfold markG
  rw [List.length_append, List.length_replicate]
  have : (if p.1 < x.1 then [] else if f = true then [] else [(44 : UInt8)]).length ≤ 1 := by
    split
    · simp
    · split <;> simp
  omega
theorem pieceG_len {f : Bool} {p x : Sg} (h : x.1 - p.1 ≤ 16) : (pieceG f p x).length ≤ 40 := by
  unfold pieceG
  have h1 := markG_len (f := f) h
  have h2 := numsT_size (turnG p x)
  rw [List.length_append, L_length]
  have : (turnG p x).length = 3 := rfl
  omega
theorem mapN_len {xs : List Sg} (h : segsOk xs = true) : ∀ k : Nat, k ≤ xs.length → (mapN xs k).length ≤ 40 * k := by
  intro k
  induction k with
  | zero => intro _; simp [mapN]
  | succ k ih =>
    intro hk
    have h1 := prev_place h (k := k) (by omega)
    have h2 := segsOk_place h (k := k) (by omega)
    have h3 := pieceG_len (f := k == 0) (p := prevG xs k) (x := getG xs k) (by omega)
    have h4 := ih (by omega)
    rw [mapN, List.length_append]
    omega
end Go.Proofs.Ytdkliboehdohdaa
