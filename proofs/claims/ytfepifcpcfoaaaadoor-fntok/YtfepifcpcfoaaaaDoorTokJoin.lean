/-
  Plain mathematics of words that are written with one space between and cut again.
-/
import Derived.Test.YtfepifcpcfoaaaaDoorJoinTok
import Derived.Test.YtfepifcpcfoaaaaDoorSpecToks
namespace Go.Proofs.YtfepifcpcfoaaaaDoor
open Go.RowKit

/-- The words, each where it begins. -/
def joinToks (zs : List ByteArray) (k : Nat) : List Tk := (List.range k).map fun i => ⟨kindL (L (zs.getD i ByteArray.empty)), L (zs.getD i ByteArray.empty), tot (zs.take i)⟩
theorem joinToks_succ (zs : List ByteArray) (k : Nat) : joinToks zs (k + 1) = joinToks zs k ++ [⟨kindL (L (zs.getD k ByteArray.empty)), L (zs.getD k ByteArray.empty), tot (zs.take k)⟩] := by simp [joinToks, List.range_succ]
theorem getD_at (zs : List ByteArray) (k : Nat) (h : k < zs.length) : zs.getD k ByteArray.empty = zs[k] := by simp [List.getD, h]
theorem joinK_exact (zs : List ByteArray) : ∀ k, 1 ≤ k → k ≤ zs.length → (joinK zs k).size + 1 = tot (zs.take k) := by
  intro k
  induction k with
  | zero => intro h; omega
  | succ k ih =>
    intro _ h
    rw [tot_take_succ zs k (by omega)]
    unfold joinK
    rw [ByteArray.size_append, getD_at zs k (by omega)]
    by_cases h0 : k = 0
    · subst h0
      rw [if_pos rfl]
      simp [joinK, tot]
    · have := ih (by omega) (by omega)
      rw [if_neg h0, ByteArray.size_append]
      have h1 : (ByteArray.mk #[32]).size = 1 := rfl
      omega
theorem L_append (a b : ByteArray) : L (a ++ b) = L a ++ L b := by simp [L]
theorem toks_join (zs : List ByteArray) (hz : ∀ z ∈ zs, kindL (L z) ≠ 0) : ∀ k, k ≤ zs.length → toks 0 (L (joinK zs k)) = some (joinToks zs k) := by
  intro k
  induction k with
  | zero => intro _; exact toks_nil 0
  | succ k ih =>
    intro h
    have hk : kindL (L (zs.getD k ByteArray.empty)) ≠ 0 := by rw [getD_at zs k (by omega)]; exact hz _ (List.getElem_mem _)
    rw [joinToks_succ]
    unfold joinK
    by_cases h0 : k = 0
    · subst h0
      rw [if_pos rfl, L_append]
      show toks 0 ([] ++ L (zs.getD 0 ByteArray.empty)) = _
      rw [List.nil_append, toks_one 0 _ hk]
      rfl
    · have hs := joinK_exact zs k (by omega) (by omega)
      rw [if_neg h0, L_append, L_append]
      show toks 0 (L (joinK zs k) ++ [32] ++ L (zs.getD k ByteArray.empty)) = _
      rw [List.append_assoc, List.singleton_append, toks_cat, ih (by omega)]
      rw [L_length, show 0 + (joinK zs k).size + 1 = tot (zs.take k) by omega, toks_one _ _ hk]
      rfl
theorem joinToks_length (zs : List ByteArray) (k : Nat) : (joinToks zs k).length = k := by simp [joinToks]
theorem L_inv (z : ByteArray) : (⟨(L z).toArray⟩ : ByteArray) = z := by
  apply ByteArray.ext
  apply Array.toList_inj.1
  rfl
theorem joinToks_get (zs : List ByteArray) (k i : Nat) (hi : i < k) (hk : k ≤ zs.length) : tkV ((joinToks zs k)[i]'(by rw [joinToks_length]; exact hi)) = ((kindL (L (zs[i]'(by omega))) : Int), zs[i]'(by omega), ((tot (zs.take i) : Nat) : Int)) := by
  simp only [joinToks, List.getElem_map, List.getElem_range, tkV]
  rw [getD_at zs i (by omega), L_inv]
theorem tot_le (zs : List ByteArray) (m : Nat) (h : ∀ z ∈ zs, z.size ≤ m) : tot zs ≤ zs.length * (m + 1) := by
  induction zs with
  | nil => simp [tot]
  | cons z zs ih =>
    have h1 := ih (fun y hy => h y (by simp [hy]))
    have h2 := h z (by simp)
    simp only [tot, List.map_cons, List.sum_cons, List.length_cons] at h1 ⊢
    rw [Nat.add_mul]
    omega
/-- Few short words, written with one space between, are cut into just these. -/
theorem toksR_join (zs : List ByteArray) (hz : ∀ z ∈ zs, kindL (L z) ≠ 0) (hs : (joinK zs zs.length).size ≤ 120) : toksR (joinK zs zs.length) = some (joinToks zs zs.length) := by
  rw [toksR_ok hs, toks_join zs hz _ (Nat.le_refl _)]
end Go.Proofs.YtfepifcpcfoaaaaDoor
