/-
  The contracts of the model's l4Type, l4Held, l4Name, l4Op, l4Form, l4Many and ExprOk, for all that can be read.
-/
import Derived.Test.YtaclndbilpaboaaGreatDoorExs
import Derived.Test.YtaclndbilpaboaaGreatDoorSpecTok
namespace Go.Proofs.YtaclndbilpaboaaGreatDoor
open Go.RowKit

theorem isS (s : ByteArray) (l : List UInt8) : (s.toList == l) = decide (s = ⟨l.toArray⟩) := by
  rw [ByteArray.toList_eq]
  by_cases h : s = ⟨l.toArray⟩
  · subst h; simp
  · have : ¬ s.data.toList = l := fun e => h (ByteArray.ext (Array.toList_inj.1 (by simp [e])))
    rw [decide_eq_false h, beq_eq_false_iff_ne]
    exact this
theorem isS_eq {s : ByteArray} {l : List UInt8} (h : s.toList = l) : s = ⟨l.toArray⟩ := by
  rw [ByteArray.toList_eq] at h
  exact ByteArray.ext (Array.toList_inj.1 (by simp [h]))
theorem isS_ne {s : ByteArray} {l : List UInt8} (h : ¬ s = ⟨l.toArray⟩) : ¬ s.toList = l := fun e => h (isS_eq e)
theorem toList_S (l : List UInt8) : (ByteArray.mk l.toArray).toList = l := by rw [ByteArray.toList_eq]

set_option maxHeartbeats 1000000 in
theorem l4Type_any (s : ByteArray) (w : World) : Calls Tryz.prog 23 #[.string s] w fun e w' => e = .returned (.bool (typeB s)) ∧ w = w' := by
  have HF := Lib.hid (show typeB s = (s.toList == [105, 110, 116] || s.toList == [98, 111, 111, 108]) by rw [isS, isS]; rfl)
  go_enter Tryz.func23, Tryz.ntmps23
  go_wp2
  all_goals (go_ret; exact ⟨ret_bool (by rw [HF.out] <;> simp [*]), rfl⟩)
set_option maxHeartbeats 1000000 in
theorem l4Held_any (s : ByteArray) (w : World) : Calls Tryz.prog 60 #[.string s] w fun e w' => e = .returned (.bool (heldB s)) ∧ w = w' := by
  have HF := Lib.hid (show heldB s = (s.toList == [108, 101, 116] || (s.toList == [115, 97, 121] || (s.toList == [119, 104, 101, 110] || (s.toList == [97, 115] || (s.toList == [112, 114, 105, 110, 116] || (s.toList == [105, 102] || typeB s)))))) by rw [isS, isS, isS, isS, isS, isS]; rfl)
  go_enter Tryz.func60, Tryz.ntmps60
  go_wp2_with (go_at_call 23; refine (l4Type_any s _).mono ?_; rintro e w' ⟨rfl, rfl⟩)
  all_goals (go_ret; exact ⟨ret_bool (by rw [HF.out] <;> simp [*, Bool.or_assoc]), rfl⟩)
set_option maxHeartbeats 1000000 in
theorem l4Name_any (s : ByteArray) (w : World) (hs : s.size ≤ 2 ^ 40) : Calls Tryz.prog 50 #[.string s] w fun e w' => e = .returned (.bool (nameB s)) ∧ w = w' := by
  have HW := Lib.hid (l3Word_any s w hs)
  have HF := Lib.hid (show nameB s = (wordL (L s) && !heldB s) from rfl)
  go_enter Tryz.func50, Tryz.ntmps50
  go_wp2_with fail
  refine HW.out.mono ?_
  rintro e w' ⟨rfl, rfl⟩
  generalize wordL (L s) = b at *
  cases b
  · go_wp2_with fail
    go_ret
    exact ⟨ret_bool (by rw [HF.out]; rfl), rfl⟩
  · go_wp2_with (go_at_call 60; refine (l4Held_any s _).mono ?_; rintro e w' ⟨rfl, rfl⟩)
    go_ret
    exact ⟨ret_bool (by rw [HF.out]; rfl), rfl⟩
set_option maxHeartbeats 1000000 in
theorem l4Op_any (s : ByteArray) (w : World) : Calls Tryz.prog 51 #[.string s] w fun e w' => e = .returned (.bool (decide (hold s ≠ 0))) ∧ w = w' := by
  have HF := Lib.hid (show decide (hold s ≠ 0) = (s.toList == [43] || (s.toList == [45] || (s.toList == [42] || s.toList == [60]))) by
    rw [isS, isS, isS, isS]
    unfold hold
    by_cases h1 : s = sLess
    · subst h1; rfl
    · by_cases h2 : s = sPlus
      · subst h2; rfl
      · by_cases h3 : s = sMinus
        · subst h3; rfl
        · by_cases h4 : s = sTimes
          · subst h4; rfl
          · rw [if_neg h1, if_neg h2, if_neg h3, if_neg h4, show decide (s = ⟨[43].toArray⟩) = false from decide_eq_false h2, show decide (s = ⟨[45].toArray⟩) = false from decide_eq_false h3, show decide (s = ⟨[42].toArray⟩) = false from decide_eq_false h4, show decide (s = ⟨[60].toArray⟩) = false from decide_eq_false h1]; rfl)
  go_enter Tryz.func51, Tryz.ntmps51
  go_wp2
  all_goals (go_ret; exact ⟨ret_bool (by rw [HF.out] <;> simp [*, Bool.or_assoc]), rfl⟩)

/-- Whether it has the form, not deeper than so. -/
def formB (d : Nat) (e : Ex) : Bool := (ptOf d e).isSome
/-- How many kids there must be, if all else is right. -/
def headOk (k n : Int) (s : ByteArray) : Option Nat :=
  if k = 1 then (if 0 ≤ n ∧ n ≤ 1000000 ∧ s = ByteArray.empty then some 0 else none)
  else if k = 2 then (if n = 0 ∧ nameB s = true then some 0 else none)
  else if k = 3 then (if n = 0 ∧ hold s ≠ 0 then some 2 else none)
  else if k = 4 then (if n = 0 ∧ typeB s = true then some 1 else none)
  else none
theorem form_step (d : Nat) (k n : Int) (s : ByteArray) (ks : List Ex) : formB (d + 1) (.mk k n s ks) = (decide (headOk k n s = some ks.length) && ks.all (formB d)) := by
  unfold formB headOk
  rw [ptOf]
  simp only [Ex.kind, Ex.n, Ex.s, Ex.kids]
  unfold ptStep
  by_cases h1 : k = 1
  · subst h1
    simp only [if_true]
    by_cases hc : 0 ≤ n ∧ n ≤ 1000000 ∧ s = ByteArray.empty
    · rcases ks with _ | ⟨a, ks⟩ <;> simp [hc]
    · rw [if_neg hc, if_neg (fun h => hc ⟨h.1, h.2.1, h.2.2.1⟩)]; simp
  · by_cases h2 : k = 2
    · subst h2
      simp only [if_neg h1, if_true]
      by_cases hc : n = 0 ∧ nameB s = true
      · rcases ks with _ | ⟨a, ks⟩ <;> simp [hc]
      · rw [if_neg hc, if_neg (fun h => hc ⟨h.1, h.2.1⟩)]; simp
    · by_cases h3 : k = 3
      · subst h3
        simp only [if_neg h1, if_neg h2, if_true]
        by_cases hc : n = 0 ∧ hold s ≠ 0
        · rw [if_pos hc, if_pos hc]
          rcases ks with _ | ⟨a, _ | ⟨b, _ | ⟨c, ks⟩⟩⟩ <;> simp [twoOf]
          cases ptOf d a <;> cases ptOf d b <;> simp
        · rw [if_neg hc, if_neg hc]; simp
      · by_cases h4 : k = 4
        · subst h4
          simp only [if_neg h1, if_neg h2, if_neg h3, if_true]
          by_cases hc : n = 0 ∧ typeB s = true
          · rw [if_pos hc, if_pos hc]
            rcases ks with _ | ⟨a, _ | ⟨b, ks⟩⟩ <;> simp [asOf]
          · rw [if_neg hc, if_neg hc]; simp
        · simp only [if_neg h1, if_neg h2, if_neg h3, if_neg h4]; simp
theorem all_take {α : Type} {f : α → Bool} {l : List α} {k : Nat} (h : k < l.length) : (l.take (k + 1)).all f = ((l.take k).all f && f l[k]) := by
  rw [List.take_succ_eq_append_getElem h, List.all_append]; simp
theorem all_bad {α : Type} {f : α → Bool} {l : List α} {k : Nat} (h : k < l.length) (hf : f l[k] = false) : l.all f = false := by
  cases ha : l.all f
  · rfl
  · rw [List.all_eq_true.1 ha l[k] (List.getElem_mem _)] at hf; cases hf

theorem cell_made4 (w : World) (cs : Array Value) (t : TypeId) (j : Nat) (v : Value) (h : cs[j]? = some v) : (w.alloc (.cells cs t)).cell? ⟨w.heap.size, j, none⟩ = some v := by
  have h2 := World.alloc_heap_new w (.cells cs t)
  simp only [World.cell?]
  rw [h2]
  exact h
end Go.Proofs.YtaclndbilpaboaaGreatDoor
