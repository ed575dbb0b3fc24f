/-
  Plain mathematics for the laws of what is reckoned: what it comes to and its type, of all that can be read. No Go.
-/
import Derived.Test.YtaclndbilpaboaaGreatDoorExMath
namespace Go.Proofs.YtaclndbilpaboaaGreatDoor

theorem ok_two {s : ByteArray} {a b : Pt} (h : (Pt.two s a b).ok = true) : hold s ≠ 0 ∧ a.ok = true ∧ b.ok = true := by
  simp only [Pt.ok, Pt.fine, Pt.depth, Pt.nodes, Bool.and_eq_true, decide_eq_true_eq] at h ⊢
  have := a.nodes_pos
  have := b.nodes_pos
  obtain ⟨⟨h1, h2, h3⟩, h4, h5⟩ := h
  replace h4 := of_decide_eq_true h4
  replace h5 := of_decide_eq_true h5
  exact ⟨h1, ⟨h2, by omega, by omega⟩, ⟨h3, by omega, by omega⟩⟩
theorem ok_as {s : ByteArray} {a : Pt} (h : (Pt.as s a).ok = true) : typeB s = true ∧ a.ok = true := by
  simp only [Pt.ok, Pt.fine, Pt.depth, Pt.nodes, Bool.and_eq_true, decide_eq_true_eq] at h ⊢
  obtain ⟨⟨h1, h2⟩, h4, h5⟩ := h
  replace h4 := of_decide_eq_true h4
  replace h5 := of_decide_eq_true h5
  exact ⟨h1, ⟨h2, by omega, by omega⟩⟩
theorem ok_fine {p : Pt} (h : p.ok = true) : p.fine = true := by
  simp only [Pt.ok, Bool.and_eq_true] at h; exact h.1
theorem ok_bare {p : Pt} (h : p.ok = true) : p.bare.ok = true := by
  have aux : ∀ p : Pt, (p.fine = true → p.bare.fine = true) ∧ p.bare.depth ≤ p.depth ∧ p.bare.nodes ≤ p.nodes := by
    intro p
    induction p with
    | num n => exact ⟨id, Nat.le_refl _, Nat.le_refl _⟩
    | name s => exact ⟨id, Nat.le_refl _, Nat.le_refl _⟩
    | two s a b ia ib =>
      refine ⟨fun h => ?_, ?_, ?_⟩
      · simp only [Pt.fine, Pt.bare, Bool.and_eq_true] at h ⊢
        exact ⟨h.1, ia.1 h.2.1, ib.1 h.2.2⟩
      · simp only [Pt.depth, Pt.bare]; omega
      · simp only [Pt.nodes, Pt.bare]; omega
    | as s a ia =>
      refine ⟨fun h => ?_, ?_, ?_⟩
      · simp only [Pt.fine, Pt.bare, Bool.and_eq_true] at h ⊢
        exact ia.1 h.2
      · simp only [Pt.depth, Pt.bare]; omega
      · simp only [Pt.nodes, Pt.bare]; omega
  obtain ⟨a1, a2, a3⟩ := aux p
  simp only [Pt.ok, Bool.and_eq_true, decide_eq_true_eq] at h ⊢
  exact ⟨a1 h.1, by omega, by omega⟩

theorem mul_bounds {a b : Int} (ha0 : -1000000 ≤ a) (ha1 : a ≤ 1000000) (hb0 : -1000000 ≤ b) (hb1 : b ≤ 1000000) : -1000000000000 ≤ a * b ∧ a * b ≤ 1000000000000 := by
  have p1 := Int.mul_nonneg (show 0 ≤ 1000000 - a by omega) (show 0 ≤ 1000000 + b by omega)
  have p2 := Int.mul_nonneg (show 0 ≤ 1000000 + a by omega) (show 0 ≤ 1000000 - b by omega)
  have p3 := Int.mul_nonneg (show 0 ≤ 1000000 - a by omega) (show 0 ≤ 1000000 - b by omega)
  have p4 := Int.mul_nonneg (show 0 ≤ 1000000 + a by omega) (show 0 ≤ 1000000 + b by omega)
  rw [Int.sub_mul, Int.mul_add, Int.mul_add] at p1
  rw [Int.add_mul, Int.mul_sub, Int.mul_sub] at p2
  rw [Int.sub_mul, Int.mul_sub, Int.mul_sub] at p3
  rw [Int.add_mul, Int.mul_add, Int.mul_add] at p4
  omega
/-- What it comes to. -/
def ofE (e : Ex) (names : List ByteArray) (nums : List Int) : Option Int := if names.length = nums.length then (okP e).bind (fun p => p.of names nums) else none
/-- Its type. -/
def typE (e : Ex) (names types : List ByteArray) : ByteArray := match okP e with
  | some p => if names.length = types.length ∧ types.all typeB = true then p.typ names types else ByteArray.empty
  | none => ByteArray.empty
theorem ofE_bounds {e : Ex} {names : List ByteArray} {nums : List Int} {v : Int} (h : ofE e names nums = some v) : -1000000 ≤ v ∧ v ≤ 1000000 := by
  unfold ofE at h
  split at h
  · obtain ⟨p, hp, hv⟩ := Option.bind_eq_some_iff.1 h
    exact Pt.of_bounds names nums p (ok_fine (okP_some hp).2) v hv
  · cases h
theorem sInt_ne : sInt ≠ ByteArray.empty := by decide
theorem sBool_ne : sBool ≠ ByteArray.empty := by decide
theorem type_ne {s : ByteArray} (h : typeB s = true) : s ≠ ByteArray.empty := by rintro rfl; revert h; decide
theorem type_cases {s : ByteArray} (h : typeB s = true) : s = sInt ∨ s = sBool := by
  simp only [typeB, Bool.or_eq_true, decide_eq_true_eq] at h; exact h
theorem typ_typed {names types : List ByteArray} {nums : List Int} (p : Pt) : p.typ names types ≠ ByteArray.empty → ∃ v, p.of names nums = some v := by
  induction p with
  | num n => intro _; exact ⟨n, rfl⟩
  | name s =>
    intro h
    rw [Pt.typ] at h
    rw [Pt.of]
    cases hl : lastOf names s with
    | none => rw [hl] at h; exact absurd rfl h
    | some i => exact ⟨_, rfl⟩
  | two s a b ia ib =>
    intro h
    rw [Pt.typ] at h
    split at h
    · rename_i hh
      obtain ⟨x, hx⟩ := ia (by rw [hh.1]; exact sInt_ne)
      obtain ⟨y, hy⟩ := ib (by rw [hh.2]; exact sInt_ne)
      exact ⟨twoN s x y, by rw [Pt.of, hx, hy]⟩
    · exact absurd rfl h
  | as s a ia =>
    intro h
    rw [Pt.typ] at h
    split at h
    · exact absurd rfl h
    · rename_i hh
      exact ia hh
theorem typ_kind {names types : List ByteArray} (ht : types.all typeB = true) (p : Pt) : p.fine = true → p.typ names types = ByteArray.empty ∨ typeB (p.typ names types) = true := by
  induction p with
  | num n => intro _; exact .inr rfl
  | name s =>
    intro _
    rw [Pt.typ]
    cases hl : lastOf names s with
    | none => exact .inl rfl
    | some i =>
      simp only
      by_cases hi : i < types.length
      · right
        simp only [List.getD, List.getElem?_eq_getElem hi, Option.getD_some]
        exact List.all_eq_true.1 ht _ (List.getElem_mem hi)
      · left; simp [List.getD, List.getElem?_eq_none (Nat.le_of_not_lt hi)]
  | two s a b ia ib =>
    intro _
    rw [Pt.typ]
    split
    · right; split <;> rfl
    · exact .inl rfl
  | as s a ia =>
    intro h
    simp only [Pt.fine, Bool.and_eq_true] at h
    rw [Pt.typ]
    split
    · exact .inl rfl
    · exact .inr h.1
theorem findL_app {names more : List ByteArray} {s : ByteArray} : ∀ k, k ≤ names.length → findL (names ++ more) s k = findL names s k := by
  intro k
  induction k with
  | zero => intro _; rfl
  | succ k ih =>
    intro h
    have e : (names ++ more).getD k ByteArray.empty = names.getD k ByteArray.empty := by simp only [List.getD, List.getElem?_append_left (show k < names.length by omega)]
    rw [findL, findL, ih (by omega), e]
theorem lastOf_snoc {names : List ByteArray} {u s : ByteArray} (h : u ≠ s) : lastOf (names ++ [u]) s = lastOf names s := by
  unfold lastOf
  rw [List.length_append, List.length_singleton, findL]
  have : (names ++ [u]).getD names.length ByteArray.empty = u := by simp [List.getD]
  rw [this, if_neg h, findL_app _ (Nat.le_refl _)]
theorem lastOf_snoc_same {names : List ByteArray} {u : ByteArray} : lastOf (names ++ [u]) u = some names.length := by
  unfold lastOf
  rw [List.length_append, List.length_singleton, findL]
  have : (names ++ [u]).getD names.length ByteArray.empty = u := by simp [List.getD]
  rw [this, if_pos rfl]
theorem findL_pre {pre names : List ByteArray} {s : ByteArray} : ∀ k i, findL names s k = some i → findL (pre ++ names) s (pre.length + k) = some (pre.length + i) := by
  intro k
  induction k with
  | zero => intro i h; cases h
  | succ k ih =>
    intro i h
    rw [findL] at h
    rw [← Nat.add_assoc, findL]
    have e : (pre ++ names).getD (pre.length + k) ByteArray.empty = names.getD k ByteArray.empty := by
      simp [List.getD, List.getElem?_append_right]
    rw [e]
    split at h
    · rename_i hh
      cases h
      rw [if_pos hh]
    · rename_i hh
      rw [if_neg hh]
      exact ih i h
theorem lastOf_pre {pre names : List ByteArray} {s : ByteArray} {i : Nat} (h : lastOf names s = some i) : lastOf (pre ++ names) s = some (pre.length + i) := by
  unfold lastOf at h ⊢
  rw [List.length_append]
  exact findL_pre _ _ h
/-- No name in it is this one. -/
def Pt.free (u : ByteArray) : Pt → Prop
  | .num _ => True
  | .name s => u ≠ s
  | .two _ a b => a.free u ∧ b.free u
  | .as _ a => a.free u
theorem of_snoc {names : List ByteArray} {nums : List Int} {u : ByteArray} {z : Int} (hl : names.length = nums.length) (p : Pt) : p.free u → p.of (names ++ [u]) (nums ++ [z]) = p.of names nums := by
  induction p with
  | num n => intro _; rfl
  | name s =>
    intro h
    rw [Pt.of, Pt.of, lastOf_snoc h]
    cases hf : lastOf names s with
    | none => rfl
    | some i =>
      have := findL_lt hf
      simp only [Option.map_some, List.getD, List.getElem?_append_left (show i < nums.length by omega)]
  | two s a b ia ib => intro h; rw [Pt.of, Pt.of, ia h.1, ib h.2]
  | as s a ia => intro h; exact ia h
theorem of_pre {pre names : List ByteArray} {zs nums : List Int} (hp : pre.length = zs.length) (p : Pt) : ∀ v, p.of names nums = some v → p.of (pre ++ names) (zs ++ nums) = some v := by
  induction p with
  | num n => intro v h; exact h
  | name s =>
    intro v h
    rw [Pt.of] at h ⊢
    cases hf : lastOf names s with
    | none => rw [hf] at h; cases h
    | some i =>
      rw [hf] at h
      rw [lastOf_pre hf, hp]
      simp only [Option.map_some, List.getD, List.getElem?_append_right (show zs.length ≤ zs.length + i by omega), Nat.add_sub_cancel_left] at h ⊢
      exact h
  | two s a b ia ib =>
    intro v h
    rw [Pt.of] at h ⊢
    cases ha : a.of names nums with
    | none => rw [ha] at h; cases h
    | some x =>
      cases hb : b.of names nums with
      | none => rw [ha, hb] at h; cases h
      | some y =>
        rw [ha, hb] at h
        rw [ia x ha, ib y hb]
        exact h
  | as s a ia => intro v h; exact ia v h
theorem typ_pre {pre names tp types : List ByteArray} (hp : pre.length = tp.length) (p : Pt) : p.typ names types ≠ ByteArray.empty → p.typ (pre ++ names) (tp ++ types) = p.typ names types := by
  induction p with
  | num n => intro _; rfl
  | name s =>
    intro h
    rw [Pt.typ] at h ⊢
    rw [Pt.typ]
    cases hf : lastOf names s with
    | none => rw [hf] at h; exact absurd rfl h
    | some i =>
      rw [lastOf_pre hf, hp]
      simp only [List.getD, List.getElem?_append_right (show tp.length ≤ tp.length + i by omega), Nat.add_sub_cancel_left]
  | two s a b ia ib =>
    intro h
    rw [Pt.typ] at h
    split at h
    · rename_i hh
      rw [Pt.typ, Pt.typ, ia (by rw [hh.1]; exact sInt_ne), ib (by rw [hh.2]; exact sInt_ne)]
    · exact absurd rfl h
  | as s a ia =>
    intro h
    rw [Pt.typ] at h
    split at h
    · exact absurd rfl h
    · rename_i hh
      rw [Pt.typ, Pt.typ, ia hh]
theorem bare_of {names : List ByteArray} {nums : List Int} (p : Pt) : p.bare.of names nums = p.of names nums := by
  induction p with
  | num n => rfl
  | name s => rfl
  | two s a b ia ib => rw [Pt.bare, Pt.of, Pt.of, ia, ib]
  | as s a ia => rw [Pt.bare, Pt.of, ia]
theorem bare_bare (p : Pt) : p.bare.bare = p.bare := by
  induction p with
  | num n => rfl
  | name s => rfl
  | two s a b ia ib => rw [Pt.bare, Pt.bare, ia, ib]
  | as s a ia => exact ia
end Go.Proofs.YtaclndbilpaboaaGreatDoor
