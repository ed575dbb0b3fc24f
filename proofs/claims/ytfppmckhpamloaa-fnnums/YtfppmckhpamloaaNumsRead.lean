/-
  The contracts of impl.NumsRead and the model's NumsRead, for all texts.
-/
import Derived.Test.YtfppmckhpamloaaNumsText
import Derived.Test.YtfppmckhpamloaaSpecNumRead
namespace Go.Proofs.Ytfppmckhpamloaa
open Go.RowKit

theorem catL_cons (z : Int) (zs : List Int) : catL (z :: zs) = numL z ++ catL zs := by simp [catL]
theorem allIn_cons (z : Int) (zs : List Int) : allIn (z :: zs) = (inB z && allIn zs) := by simp [allIn]
theorem allIn_append (a b : List Int) : allIn (a ++ b) = (allIn a && allIn b) := by simp [allIn]
/-- The letters of numbers begin with those of others just if the numbers do. -/
theorem cat_front : ∀ (zs zs' : List Int) (q : List UInt8), allIn zs = true → allIn zs' = true → catL zs ++ q = catL zs' → ∃ r, zs' = zs ++ r ∧ q = catL r
  | [], zs', q, _, _, h => ⟨zs', rfl, by simpa [catL] using h⟩
  | z :: zs, [], q, h1, _, h => by
    rw [allIn_cons, Bool.and_eq_true] at h1
    rw [catL_cons] at h
    have : numL z = [] := by
      have h2 : numL z ++ (catL zs ++ q) = [] := by rw [← List.append_assoc, h]; rfl
      exact (List.append_eq_nil_iff.1 h2).1
    exact absurd this (numL_ne h1.1)
  | z :: zs, z' :: zs', q, h1, h2, h => by
    rw [allIn_cons, Bool.and_eq_true] at h1 h2
    rw [catL_cons, catL_cons, List.append_assoc] at h
    obtain rfl := num_unique h1.1 h2.1 h
    obtain ⟨r, hr, hq⟩ := cat_front zs zs' q h1.2 h2.2 (List.append_cancel_left h)
    exact ⟨r, by rw [hr]; rfl, hq⟩
theorem cat_nil {r : List Int} (h : allIn r = true) (he : catL r = []) : r = [] := by
  cases r with
  | nil => rfl
  | cons z r =>
    rw [allIn_cons, Bool.and_eq_true] at h
    rw [catL_cons] at he
    exact absurd (List.append_eq_nil_iff.1 he).1 (numL_ne h.1)
theorem cat_inj {a b : List Int} (ha : allIn a = true) (hb : allIn b = true) (h : catL a = catL b) : a = b := by
  obtain ⟨r, hr, hq⟩ := cat_front a b [] ha hb (by simpa using h)
  have : allIn r = true := by rw [hr, allIn_append, Bool.and_eq_true] at hb; exact hb.2
  rw [hr, cat_nil this hq.symm, List.append_nil]

/-- These are the numbers whose letters stand there. -/
def Are (l : List UInt8) (zs : List Int) : Prop := allIn zs = true ∧ catL zs = l
open Classical in
noncomputable def numsR (s : ByteArray) : Option (List Int) := if h : ∃ zs, Are (L s) zs then some (Classical.choose h) else none
theorem numsR_yes {s : ByteArray} {zs : List Int} (h : Are (L s) zs) : numsR s = some zs := by
  unfold numsR
  rw [dif_pos ⟨zs, h⟩]
  have h2 := Classical.choose_spec (⟨zs, h⟩ : ∃ zs, Are (L s) zs)
  rw [cat_inj h2.1 h.1 (h2.2.trans h.2.symm)]
theorem numsR_no {s : ByteArray} (h : ¬ ∃ zs, Are (L s) zs) : numsR s = none := by unfold numsR; rw [dif_neg h]
/-- So far these numbers were read. -/
def Far (s : ByteArray) (a : Nat) (zs : List Int) : Prop := a ≤ s.size ∧ Are ((L s).take a) zs
theorem Far.zero (s : ByteArray) : Far s 0 [] := ⟨Nat.zero_le _, rfl, rfl⟩
theorem Far.all {s : ByteArray} {zs : List Int} (h : Far s s.size zs) : numsR s = some zs := by
  refine numsR_yes ?_
  have := h.2
  rwa [List.take_of_length_le (by rw [L_length]; exact Nat.le_refl _)] at this
theorem Far.len {s : ByteArray} {a : Nat} {zs : List Int} (h : Far s a zs) : zs.length ≤ a := by
  obtain ⟨h1, h2, h3⟩ := h
  have h4 : ∀ zs : List Int, allIn zs = true → zs.length ≤ (catL zs).length := by
    intro zs
    induction zs with
    | nil => intro _; simp
    | cons z zs ih =>
      intro h
      rw [allIn_cons, Bool.and_eq_true] at h
      have := ih h.2
      have hp := List.length_pos_iff.2 (numL_ne h.1)
      rw [catL_cons, List.length_append, List.length_cons]
      omega
  have h5 := h4 zs h2
  rw [h3, List.length_take] at h5
  omega
/-- One step of reading, from the answer of NumRead. -/
theorem Far.step {s : ByteArray} {a : Nat} {zs : List Int} (h : Far s a zs) (ha : a < s.size) :
    (∃ (m : Int) (k : Nat), numR s (a : Int) = (m, ((a + k : Nat) : Int)) ∧ 1 ≤ k ∧ a + k ≤ s.size ∧ Far s (a + k) (zs ++ [m]) ∧ -1000000 ≤ m ∧ m ≤ 1000000) ∨ (numR s (a : Int) = (0, -1) ∧ numsR s = none) := by
  cases hr : rdN ((L s).drop a) with
  | none =>
    refine .inr ⟨numR_none hr, numsR_no ?_⟩
    rintro ⟨zs', h1, h2⟩
    obtain ⟨hA, hI, hC⟩ := h
    obtain ⟨r, hr1, hq⟩ := cat_front zs zs' ((L s).drop a) hI h1 (by rw [hC, h2, List.take_append_drop])
    cases r with
    | nil =>
      have h3 := congrArg List.length hq
      rw [List.length_drop, L_length] at h3
      simp [catL] at h3
      omega
    | cons z r =>
      rw [hr1, allIn_append, allIn_cons, Bool.and_eq_true, Bool.and_eq_true] at h1
      rw [hq, catL_cons, rdN_num h1.2.1] at hr
      simp at hr
  | some x =>
    obtain ⟨m, k⟩ := x
    obtain ⟨h1, h2, h3⟩ := rdN_some hr
    rw [List.length_drop, L_length] at h2
    have hin : inB m = true := by
      cases hb : inB m
      · simp only at h3
        rw [numL_out hb] at h3
        have h4 := congrArg List.length h3
        rw [List.length_take, List.length_drop, L_length] at h4
        simp at h4 h1
        omega
      · rfl
    have hbd := inB_bd hin
    refine .inl ⟨m, k, by rw [numR_some hr]; simp, h1, by simp at h2; omega, ⟨by simp at h2; omega, ?_, ?_⟩, hbd.1, hbd.2⟩
    · rw [allIn_append, h.2.1, allIn_cons, hin]; rfl
    · rw [catL_append, h.2.2, catL_one]
      simp only at h3
      rw [h3, List.take_add]

/-- What NumsRead tells: a list of its own, and whether there are such numbers. -/
def ReadsAll (w : World) (s : ByteArray) (e : Ending) (w' : World) : Prop :=
  ∃ v, e = .returned (.tuple #[v, .bool (numsR s).isSome]) ∧ w'.ownsRow w.heap.size 3 1 v ((numsR s).getD []).length (((numsR s).getD []).map intV) ∧ Below w.heap.size w w'
theorem ret_list {v : Value} {a b : Bool} (h : a = b) : Ending.returned (.tuple #[v, .bool a]) = .returned (.tuple #[v, .bool b]) := by rw [h]

set_option maxRecDepth 100000 in
set_option maxHeartbeats 1000000 in
theorem numsRead_any (s : ByteArray) (w : World) (hs : s.size ≤ 2 ^ 30) :
    Calls Try.prog 24 #[.string s] w (ReadsAll w s) := by
  obtain ⟨i0, hi, hz0, hz1, hz2⟩ := info_parts infoInt
  go_enter Try.func24, Try.ntmps24
  go_wp2_with fail
  go_loopw [4, 5] (fun v i wr => ∃ (a : Nat) (zs : List Int), i = .int .i64 a ∧ Far s a zs ∧ wr.ownsRow w.heap.size 3 1 v zs.length (zs.map intV) ∧ Below w.heap.size w wr)
    (fun _ i _ => s.size - (intOf i).toNat)
  case atStart => exact ⟨0, [], rfl, Far.zero s, World.ownsRow_nil _ _ _ _, Below.refl _ _⟩
  case round =>
    obtain ⟨a, zs, rfl, hfar, hown, hB⟩ := hrel
    have hlen := hfar.len
    have has := hfar.1
    have hwz := hB.size
    by_cases hlt : a < s.size
    · have q1 : decide (a < s.size) = true := by simpa using hlt
      have HR := Lib.hid (numRead_any s (a : Int) wr (by omega))
      rcases hfar.step hlt with ⟨m, k, hnr, hk1, hks, hf2, hm1, hm2⟩ | ⟨hnr, hno⟩
      · rw [hnr] at HR
        have HF := Lib.hid hf2
        clear hnr hf2 hfar
        generalize hb : a + k = b at *
        have HBk := Lib.hid hb
        have hab : a < b := by omega
        clear hb
        go_wp2_with fail
        refine HR.out.mono ?_
        rintro e w1 ⟨rfl, hb1⟩
        have hs1 := hb1.size
        have hown1 := own_below hown hb1
        have hB1 := hB.trans (hb1.mono hB.size)
        have q2 : decide ((b : Int) < 0) = false := by simp
        clear hown HR
        go_wp2_with (at_builtin; refine wpList_append_own _ rfl _ _ 31 rfl w.heap.size 3 i0 (.int .i64 0) 1 8 Try.underlying31 hi hz0 hz1 hz2 rfl (by decide) _ _ _ rfl (hown1.alloc _) ⟨w1.heap.size, 0, none⟩ 1 1 [.int .i64 m] rfl rfl (cell_one_new _ _ _) (by simp [Value.oneCell']) (by unfold maxLen; omega) (by omega) (by simp; omega) ?_; intro v' w2 hown' hgrow _)
        go_roundw
        case rel => exact ⟨b, zs ++ [m], rfl, HF.out, by rw [List.map_append, List.length_append]; exact hown', below_append hB1 hB1.size hown1 hgrow⟩
        case measure => simp [intOf]; omega
      · rw [hnr] at HR
        have HN := Lib.hid hno
        clear hnr hno hfar
        go_wp2_with fail
        refine HR.out.mono ?_
        rintro e w1 ⟨rfl, hb1⟩
        go_wp2_with fail
        go_ret2
        exact ⟨_, ret_list (by rw [HN.out]; rfl), by rw [HN.out]; exact World.ownsRow_nil _ _ _ _, hB.trans (hb1.mono hB.size)⟩
    · obtain rfl : s.size = a := by omega
      have HN := Lib.hid hfar.all
      clear hfar
      go_wp2_with fail
      go_ret2
      exact ⟨_, ret_list (by rw [HN.out]; rfl), by rw [HN.out]; exact hown, hB⟩

set_option maxRecDepth 100000 in
set_option maxHeartbeats 1000000 in
theorem specNumsRead_any (s : ByteArray) (w : World) (hs : s.size ≤ 2 ^ 30) :
    Calls Try.prog 25 #[.string s] w (ReadsAll w s) := by
  obtain ⟨i0, hi, hz0, hz1, hz2⟩ := info_parts infoInt
  go_enter Try.func25, Try.ntmps25
  go_wp2_with fail
  go_loopw [4, 5] (fun v i wr => ∃ (a : Nat) (zs : List Int), i = .int .i64 a ∧ Far s a zs ∧ wr.ownsRow w.heap.size 3 1 v zs.length (zs.map intV) ∧ Below w.heap.size w wr)
    (fun _ i _ => s.size - (intOf i).toNat)
  case atStart => exact ⟨0, [], rfl, Far.zero s, ownsRow_empty w _, (Below.refl _ w).alloc (Nat.le_refl _) _⟩
  case round =>
    obtain ⟨a, zs, rfl, hfar, hown, hB⟩ := hrel
    have hlen := hfar.len
    have has := hfar.1
    have hwz := hB.size
    by_cases hlt : a < s.size
    · have q1 : decide (a < s.size) = true := by simpa using hlt
      have HR := Lib.hid (specNumRead_any s (a : Int) wr (by omega))
      rcases hfar.step hlt with ⟨m, k, hnr, hk1, hks, hf2, hm1, hm2⟩ | ⟨hnr, hno⟩
      · rw [hnr] at HR
        have HF := Lib.hid hf2
        clear hnr hf2 hfar
        generalize hb : a + k = b at *
        have HBk := Lib.hid hb
        have hab : a < b := by omega
        clear hb
        go_wp2_with fail
        refine HR.out.mono ?_
        rintro e w1 ⟨rfl, nd, hw1⟩
        have hb1 : Below wr.heap.size wr w1 := by rw [hw1]; exact below_draws nd
        clear hw1
        have hs1 := hb1.size
        have hown1 := own_below hown hb1
        have hB1 := hB.trans (hb1.mono hB.size)
        have q2 : decide ((b : Int) < 0) = false := by simp
        clear hown HR
        go_wp2_with (at_builtin; refine wpList_append_own _ rfl _ _ 31 rfl w.heap.size 3 i0 (.int .i64 0) 1 8 Try.underlying31 hi hz0 hz1 hz2 rfl (by decide) _ _ _ rfl (hown1.alloc _) ⟨w1.heap.size, 0, none⟩ 1 1 [.int .i64 m] rfl rfl (cell_one_new _ _ _) (by simp [Value.oneCell']) (by unfold maxLen; omega) (by omega) (by simp; omega) ?_; intro v' w2 hown' hgrow _)
        go_roundw
        case rel => exact ⟨b, zs ++ [m], rfl, HF.out, by rw [List.map_append, List.length_append]; exact hown', below_append hB1 hB1.size hown1 hgrow⟩
        case measure => simp [intOf]; omega
      · rw [hnr] at HR
        have HN := Lib.hid hno
        clear hnr hno hfar
        go_wp2_with fail
        refine HR.out.mono ?_
        rintro e w1 ⟨rfl, nd, hw1⟩
        have hb1 : Below wr.heap.size wr w1 := by rw [hw1]; exact below_draws nd
        clear hw1
        go_wp2_with fail
        go_ret2
        exact ⟨_, ret_list (by rw [HN.out]; rfl), by rw [HN.out]; exact World.ownsRow_nil _ _ _ _, hB.trans (hb1.mono hB.size)⟩
    · obtain rfl : s.size = a := by omega
      have HN := Lib.hid hfar.all
      clear hfar
      go_wp2_with fail
      go_ret2
      exact ⟨_, ret_list (by rw [HN.out]; rfl), by rw [HN.out]; exact hown, hB⟩

end Go.Proofs.Ytfppmckhpamloaa
