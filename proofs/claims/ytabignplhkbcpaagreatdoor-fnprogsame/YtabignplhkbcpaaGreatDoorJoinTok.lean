/-
  The contracts of spec.TokText and impl.TokText, for all lists of texts.
-/
import Derived.Test.YtabignplhkbcpaaGreatDoorGB
import Derived.Test.YtabignplhkbcpaaGreatDoorShelf
namespace Go.Proofs.YtabignplhkbcpaaGreatDoor
open Go.RowKit

/-- The first texts with a space between. -/
def joinK (ss : List ByteArray) : Nat → ByteArray
  | 0 => ByteArray.empty
  | k + 1 => (if k = 0 then joinK ss k else joinK ss k ++ ⟨#[32]⟩) ++ ss.getD k ByteArray.empty
theorem joinK_size (ss : List ByteArray) : ∀ k, k ≤ ss.length → (joinK ss k).size ≤ tot (ss.take k) := by
  intro k
  induction k with
  | zero => intro _; simp [joinK]
  | succ k ih =>
    intro h
    have := ih (by omega)
    rw [tot_take_succ ss k (by omega)]
    unfold joinK
    rw [ByteArray.size_append]
    have e : ss.getD k ByteArray.empty = ss[k] := by simp [List.getD, show k < ss.length from by omega]
    rw [e]
    split
    · omega
    · rw [ByteArray.size_append]
      have : (ByteArray.mk #[32]).size = 1 := rfl
      omega

theorem intercalate_snoc (sep : List UInt8) (xs : List (List UInt8)) (x : List UInt8) : sep.intercalate (xs ++ [x]) = if xs = [] then x else sep.intercalate xs ++ sep ++ x := by
  induction xs with
  | nil => simp [List.intercalate]
  | cons y ys ih =>
    cases ys with
    | nil => simp [List.intercalate]
    | cons z zs =>
      simp only [List.cons_append] at ih ⊢
      rw [if_neg (by simp)] at ih ⊢
      simp only [List.intercalate, List.intersperse, List.flatten_cons] at ih ⊢
      rw [ih]
      simp [List.append_assoc]

theorem joinK_list (ss : List ByteArray) : ∀ k, k ≤ ss.length → (joinK ss k).data.toList = Lib.join ((ss.take k).map (·.data.toList)) [32] := by
  intro k
  induction k with
  | zero => intro _; simp [joinK, Lib.join, List.intercalate]
  | succ k ih =>
    intro h
    have h1 := ih (by omega)
    have e : ss.getD k ByteArray.empty = ss[k] := by simp [List.getD, show k < ss.length from by omega]
    rw [show joinK ss (k + 1) = (if k = 0 then joinK ss k else joinK ss k ++ ⟨#[32]⟩) ++ ss.getD k ByteArray.empty from rfl, e]
    unfold Lib.join at h1 ⊢
    rw [List.take_succ_eq_append_getElem (by omega), List.map_append, List.map_cons, List.map_nil, intercalate_snoc]
    by_cases hk : k = 0
    · subst hk
      simp [joinK]
    · rw [if_neg hk, if_neg (fun h => by have := congrArg List.length h; rw [List.length_map, List.length_take, List.length_nil] at this; omega), ← h1]
      simp

theorem join_eq (ss : List ByteArray) : joinK ss ss.length = ⟨(Lib.join (ss.map (·.data.toList)) (ByteArray.mk #[32]).data.toList).toArray⟩ := by
  have h := joinK_list ss ss.length (Nat.le_refl _)
  rw [List.take_length] at h
  show _ = ByteArray.mk (Lib.join (ss.map (·.data.toList)) [32]).toArray
  rw [← h]

set_option maxHeartbeats 1000000 in
theorem specTokText_any (A : Option Addr) (c : Nat) (ss : List ByteArray) (w : World) (hl : tot ss ≤ 2 ^ 40) (hA : SlIs w A (ss.map strV)) :
    Calls Tryz.prog 41 #[.slice A ss.length c] w fun e w' => e = .returned (.string (joinK ss ss.length)) ∧ w = w' := by
  have hlt0 := length_le_tot ss
  go_enter Tryz.func41, Tryz.ntmps41
  go_wp2
  go_loop [3, 4] (fun o i => ∃ (k : Nat) (out : ByteArray), k ≤ ss.length ∧ i = .int .i64 k ∧ o = .string out ∧ out = joinK ss k) (fun _ i => ss.length - (intOf i).toNat)
  case atStart => exact ⟨0, _, Nat.zero_le _, rfl, rfl, rfl⟩
  case round =>
    obtain ⟨k, out, hk, rfl, rfl, ho⟩ := hrel
    have hsz := joinK_size ss k hk
    rw [← ho] at hsz
    by_cases hlt : k < ss.length
    · obtain ⟨g, off, rfl, hg, hc⟩ := hA.at_ (k := k) (by simpa using hlt)
      simp only [List.getElem_map, strV] at hc
      have hts := tot_take_succ ss k hlt
      have htl := tot_take_le ss (k + 1)
      have e : ss.getD k ByteArray.empty = ss[k] := by simp [List.getD, hlt]
      have hn : joinK ss (k + 1) = (if k = 0 then out else out ++ ⟨#[32]⟩) ++ ss[k] := by rw [ho, ← e]; rfl
      have HN := Lib.hid hn
      have hb : out.size + ss[k].size + 1 ≤ 2 ^ 40 := by omega
      clear hn ho e hts
      generalize ss[k] = t at *
      have h1s : (ByteArray.mk #[32]).size = 1 := rfl
      by_cases hk0 : k = 0
      · subst hk0
        have HN2 := Lib.hid (show joinK ss (0 + 1) = out ++ t by rw [HN.out, if_pos rfl])
        clear HN
        rw [Nat.add_zero] at hc
        go_wp2
        go_round
        case rel => exact ⟨0 + 1, _, by omega, by go_num, rfl, HN2.out.symm⟩
        case measure => simp [intOf]; omega
      · have HN2 := Lib.hid (show joinK ss (k + 1) = out ++ ⟨#[32]⟩ ++ t by rw [HN.out, if_neg hk0])
        clear HN
        have hkp : 0 < (k : Int) := by omega
        go_wp2
        go_round
        case rel => exact ⟨k + 1, _, by omega, by go_num, rfl, HN2.out.symm⟩
        case measure => simp [intOf]; omega
    · have HO := Lib.hid ho
      clear ho
      obtain rfl : ss.length = k := by omega
      go_wp2
      go_ret
      exact ⟨by rw [← HO.out]; rfl, rfl⟩

theorem join_length (ss : List ByteArray) : (Lib.join (ss.map (·.data.toList)) (ByteArray.mk #[32]).data.toList).length ≤ tot ss := by
  have h := joinK_size ss ss.length (Nat.le_refl _)
  rw [List.take_length, join_eq] at h
  simpa [ByteArray.size] using h

set_option maxHeartbeats 1000000 in
theorem tokText_any (A : Option Addr) (c : Nat) (ss : List ByteArray) (w : World) (hl : tot ss ≤ 2 ^ 40) (hc : ss.length ≤ c) (hA : SlIs w A (ss.map strV)) :
    Calls Tryz.prog 70 #[.slice A ss.length c] w fun e w' => e = .returned (.string (joinK ss ss.length)) ∧ Below w.heap.size w w' := by
  have hlt0 := length_le_tot ss
  have hjl := join_length ss
  have HJ := Lib.hid (join_eq ss)
  rcases hA with h0 | ⟨g, off, rfl, hg, hcs⟩
  · obtain rfl : ss = [] := by simpa using h0
    go_enter Tryz.func70, Tryz.ntmps70
    go_wp2_with fail
    refine (Tryz.strings_Join_none A c ⟨#[32]⟩ w).mono ?_
    rintro e w' ⟨rfl, rfl⟩
    go_wp2_with fail
    go_ret
    exact ⟨rfl, Below.refl _ _⟩
  · have HC := Lib.hid (Tryz.strings_Join g off c ss ⟨#[32]⟩ w (fun j x hx => hcs j (.string x) (by rw [List.getElem?_map, hx]; rfl)) hg (by omega) hc (by omega))
    clear hcs
    rw [← HJ.out] at HC
    clear HJ hjl
    generalize joinK ss ss.length = t at *
    go_enter Tryz.func70, Tryz.ntmps70
    go_wp2_with fail
    refine HC.out.mono ?_
    rintro e w1 ⟨rfl, hb⟩
    go_wp2_with fail
    go_ret
    exact ⟨rfl, hb⟩

end Go.Proofs.YtabignplhkbcpaaGreatDoor
