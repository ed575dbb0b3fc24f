/-
  The contracts of impl.NumsText and the model's NumsText, for all lists of numbers.
-/
import Derived.Test.YtdkliboehdohdaaNumText
import Derived.Test.YtdkliboehdohdaaInts
namespace Go.Proofs.Ytdkliboehdohdaa
open Go.RowKit

/-- All are within their bounds. -/
def allIn (zs : List Int) : Bool := zs.all inB
/-- The letters of numbers, one behind the other. -/
def catL (zs : List Int) : List UInt8 := (zs.map numL).flatten
def numsT (zs : List Int) : ByteArray := if allIn zs then ⟨(catL zs).toArray⟩ else ByteArray.empty
theorem catL_append (a b : List Int) : catL (a ++ b) = catL a ++ catL b := by simp [catL]
theorem catL_one (z : Int) : catL [z] = numL z := by simp [catL]
theorem catL_take_succ (zs : List Int) (k : Nat) (h : k < zs.length) : catL (zs.take (k + 1)) = catL (zs.take k) ++ numL zs[k] := by
  rw [List.take_succ_eq_append_getElem h, catL_append, catL_one]
theorem catL_length (zs : List Int) : (catL zs).length ≤ 6 * zs.length := by
  induction zs with
  | nil => simp [catL]
  | cons z zs ih =>
    have h1 := numL_length z
    have e : catL (z :: zs) = numL z ++ catL zs := by simp [catL]
    rw [e, List.length_append, List.length_cons]; omega
theorem allIn_take_succ (zs : List Int) (k : Nat) (h : k < zs.length) : allIn (zs.take (k + 1)) = (allIn (zs.take k) && inB zs[k]) := by
  unfold allIn; rw [List.take_succ_eq_append_getElem h, List.all_append, List.all_cons, List.all_nil, Bool.and_true]
theorem allIn_of_take {zs : List Int} {k : Nat} (h : allIn (zs.take k) = false) : allIn zs = false := by
  rw [← List.take_append_drop k zs]; unfold allIn at h ⊢; rw [List.all_append, h]; rfl
theorem numsT_out {zs : List Int} (h : allIn zs = false) : numsT zs = ByteArray.empty := by simp [numsT, h]
theorem numsT_in {zs : List Int} (h : allIn zs = true) : numsT zs = ⟨(catL zs).toArray⟩ := by simp [numsT, h]
theorem numT_ne_empty {z : Int} (h : inB z = true) : ¬ numT z = ByteArray.empty := by
  intro e
  have h1 := congrArg L e
  rw [L_numT] at h1
  exact numL_ne h h1
theorem numT_beq {z : Int} (h : inB z = true) : (numT z).toList.isEmpty = false := by
  rw [Lib.toList_data]
  have h1 := L_numT z
  have h2 := numL_ne h
  unfold L at h1
  rw [h1]
  cases hn : numL z with
  | nil => exact absurd hn h2
  | cons a l => rfl

set_option maxHeartbeats 1000000 in
theorem specNumsText_any (A : Option Addr) (c : Nat) (zs : List Int) (w : World) (hl : zs.length ≤ 2 ^ 30) (hA : SlIs w A (zs.map intV)) :
    Calls Try.prog 43 #[.slice A zs.length c] w fun e w' => e = .returned (.string (numsT zs)) ∧ w = w' := by
  go_enter Try.func43, Try.ntmps43
  go_wp2_with fail
  go_loop [3, 4] (fun o i => ∃ (k : Nat) (out : ByteArray), k ≤ zs.length ∧ i = .int .i64 k ∧ o = .string out ∧ L out = catL (zs.take k) ∧ allIn (zs.take k) = true) (fun _ i => zs.length - (intOf i).toNat)
  case atStart => exact ⟨0, _, Nat.zero_le _, rfl, rfl, rfl, rfl⟩
  case round =>
    obtain ⟨k, out, hk, rfl, rfl, ho, hin⟩ := hrel
    have hsz : out.size ≤ 2 ^ 33 := by
      have h1 := catL_length (zs.take k)
      rw [← ho, L_length] at h1
      have := List.length_take_le k zs
      omega
    have HO := Lib.hid ho
    have HI := Lib.hid hin
    clear ho hin
    by_cases hlt : k < zs.length
    · obtain ⟨g, off, rfl, hg, hc⟩ := hA.at_ (k := k) (by simpa using hlt)
      simp only [List.getElem_map, intV] at hc
      have HS := Lib.hid (catL_take_succ zs k hlt)
      have HN := Lib.hid (allIn_take_succ zs k hlt)
      generalize zs[k] = z at *
      have hx : (k : Int) < (zs.length : Int) := by omega
      have HZ := Lib.hid (l2In_any z w)
      cases hb : inB z
      · rw [hb] at HZ HN
        have HE := Lib.hid (numsT_out (allIn_of_take (k := k + 1) (by rw [HN.out]; simp)))
        clear hb
        go_wp2_with fail
        refine HZ.out.mono ?_
        rintro e w' ⟨rfl, rfl⟩
        go_wp2_with fail
        go_ret
        exact ⟨ret_str HE.out.symm, rfl⟩
      · have HL := Lib.hid (L_numT z)
        have hnl : (numT z).size ≤ 6 := by rw [numT_size]; exact numL_length z
        have HT := Lib.hid (specNumText_any z w)
        rw [hb] at HZ HN
        clear hb
        generalize numT z = t at *
        go_wp2_with fail
        refine HZ.out.mono ?_
        rintro e w' ⟨rfl, rfl⟩
        go_wp2_with fail
        refine HT.out.mono ?_
        rintro e w' ⟨rfl, rfl⟩
        go_wp2_with fail
        go_round
        case rel => exact ⟨k + 1, out ++ t, by omega, by go_num, rfl, by rw [HS.out, ← HO.out, ← HL.out]; simp [L], by rw [HN.out, HI.out]; rfl⟩
        case measure => simp [intOf]; omega
    · obtain rfl : zs.length = k := by omega
      have HE := Lib.hid (show numsT zs = out by
        have h1 := HI.out
        have h2 := HO.out
        rw [List.take_length] at h1 h2
        rw [numsT_in h1, ← h2]
        rfl)
      go_wp2_with fail
      go_ret
      exact ⟨ret_str HE.out.symm, rfl⟩

set_option maxHeartbeats 1000000 in
theorem numsText_any (A : Option Addr) (c : Nat) (zs : List Int) (w : World) (hl : zs.length ≤ 2 ^ 30) (hA : SlIs w A (zs.map intV)) :
    Calls Try.prog 31 #[.slice A zs.length c] w fun e w' => e = .returned (.string (numsT zs)) ∧ Below w.heap.size w w' := by
  go_enter Try.func31, Try.ntmps31
  go_wp2_with fail
  go_loopw [9] (fun i wr => ∃ (k : Nat), k ≤ zs.length ∧ i = .int .i64 k ∧ Bd w.heap.size w.heap.size (catL (zs.take k)) wr ∧ allIn (zs.take k) = true ∧ Below w.heap.size w wr) (fun i _ => zs.length - (intOf i).toNat)
  case atStart => exact ⟨0, Nat.zero_le _, rfl, Bd.new w, rfl, (Below.refl _ w).alloc (Nat.le_refl _) _⟩
  case round =>
    obtain ⟨k, hk, rfl, hbd, hin, hB⟩ := hrel
    have hcl := catL_length (zs.take k)
    have hct := List.length_take_le k zs
    have HD := Lib.hid hbd
    have HI := Lib.hid hin
    have hwz := hB.size
    clear hbd hin
    by_cases hlt : k < zs.length
    · obtain ⟨g, off, rfl, hg, hc0⟩ := hA.at_ (k := k) (by simpa using hlt)
      simp only [List.getElem_map, intV] at hc0
      have hc := (hB.cell (p := ⟨g, off + k, none⟩) hg).trans hc0
      clear hc0
      have HS := Lib.hid (catL_take_succ zs k hlt)
      have HN := Lib.hid (allIn_take_succ zs k hlt)
      generalize zs[k] = z at *
      have hx : (k : Int) < (zs.length : Int) := by omega
      have HT := Lib.hid (numText_any z wr)
      cases hb : inB z
      · rw [numT_out hb] at HT
        rw [hb] at HN
        have HE := Lib.hid (numsT_out (allIn_of_take (k := k + 1) (by rw [HN.out]; simp)))
        clear hb
        go_wp2_with fail
        refine HT.out.mono ?_
        rintro e w1 ⟨rfl, hb1⟩
        go_wp2_with fail
        go_ret
        exact ⟨ret_str HE.out.symm, hB.trans (hb1.mono hB.size)⟩
      · have HL := Lib.hid (L_numT z)
        have hnl : (numT z).size ≤ 6 := by rw [numT_size]; exact numL_length z
        have q1 := numT_beq hb
        rw [hb] at HN
        clear hb
        generalize numT z = t at *
        go_wp2_with fail
        refine HT.out.mono ?_
        rintro e w1 ⟨rfl, hb1⟩
        have hs1 := hb1.size
        go_wp2_with fail
        refine (writeString_any _ _ _ t w1 (HD.out.below hb1) (by omega) (by omega)).mono ?_
        rintro e w2 ⟨rfl, hd2, hb2⟩
        have HD2 := Lib.hid hd2.bd
        clear hd2
        go_wp2_with fail
        go_roundw
        case rel => exact ⟨k + 1, by omega, by go_num, by rw [HS.out, ← HL.out]; exact HD2.out, by rw [HN.out, HI.out]; rfl, (hB.trans (hb1.mono hB.size)).trans hb2⟩
        case measure => simp [intOf]; omega
    · obtain rfl : zs.length = k := by omega
      have h1 := HI.out
      have h2 := HD.out
      rw [List.take_length] at h1 h2
      have HE := Lib.hid (numsT_in h1)
      have HD2 := Lib.hid h2
      clear h1 h2
      go_wp2_with fail
      refine (Try.Builder_String_any _ _ _ wr HD2.out (by omega)).mono ?_
      rintro e w3 ⟨rfl, hb3⟩
      go_wp2_with fail
      go_ret
      exact ⟨ret_str HE.out.symm, hB.trans hb3⟩

end Go.Proofs.Ytdkliboehdohdaa
