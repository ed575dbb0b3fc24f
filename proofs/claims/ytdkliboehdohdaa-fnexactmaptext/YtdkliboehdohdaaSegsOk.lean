/-
  Whether lists of Seg are in order, and each in its bounds: both sides.
-/
import Derived.Test.YtdkliboehdohdaaSegs
namespace Go.Proofs.Ytdkliboehdohdaa
open Go.RowKit

set_option maxHeartbeats 400000 in
theorem posLess_any (a b c d : Int) (w : World) :
    Calls Try.prog 45 #[.agg #[.int .i64 a, .int .i64 b], .agg #[.int .i64 c, .int .i64 d]] w fun e w' => e = .returned (.bool (lessG a b c d)) ∧ Below w.heap.size w w' := by
  by_cases h : a = c
  · subst h
    have h1 : (a != a) = false := by simp
    go_enter Try.func45, Try.ntmps45
    go_wp2
    go_ret
    exact ⟨by rw [lessG_col]; rfl, (((Below.refl _ w).alloc (Nat.le_refl _) _).alloc (by simp) _)⟩
  · have h1 : (a != c) = true := by simpa using h
    go_enter Try.func45, Try.ntmps45
    go_wp2
    go_ret
    exact ⟨by rw [lessG_line h]; rfl, (((Below.refl _ w).alloc (Nat.le_refl _) _).alloc (by simp) _)⟩
set_option maxHeartbeats 400000 in
theorem specPosLess_any (a b c d : Int) (w : World) :
    Calls Try.prog 42 #[.agg #[.int .i64 a, .int .i64 b], .agg #[.int .i64 c, .int .i64 d]] w fun e w' => e = .returned (.bool (lessG a b c d)) ∧ Below w.heap.size w w' := by
  by_cases h : a = c
  · subst h
    have h1 : (a == a) = true := by simp
    have h2 : decide (a < a) = false := by simp
    go_enter Try.func42, Try.ntmps42
    go_wp2
    go_ret
    exact ⟨by rw [lessG_col]; rfl, (((Below.refl _ w).alloc (Nat.le_refl _) _).alloc (by simp) _)⟩
  · have h1 : (a == c) = false := by simpa using h
    rcases Int.lt_or_gt_of_ne h with h3 | h3
    · have h2 : decide (a < c) = true := by simpa using h3
      have h4 : lessG a b c d = true := by rw [lessG_line h]; simpa using h3
      have H4 := Lib.hid h4; clear h4
      go_enter Try.func42, Try.ntmps42
      go_wp2
      go_ret
      exact ⟨by rw [H4.out]; rfl, (((Below.refl _ w).alloc (Nat.le_refl _) _).alloc (by simp) _)⟩
    · have h2 : decide (a < c) = false := by simp; omega
      have h4 : lessG a b c d = false := by rw [lessG_line h]; simp; omega
      have H4 := Lib.hid h4; clear h4
      go_enter Try.func42, Try.ntmps42
      go_wp2
      go_ret
      exact ⟨by rw [H4.out]; rfl, (((Below.refl _ w).alloc (Nat.le_refl _) _).alloc (by simp) _)⟩

/-- A place is one of a text of few lines. -/
def placeG (a b : Int) : Bool := decide (0 ≤ a) && (decide (a < 16) && (decide (0 ≤ b) && decide (b < 120)))
set_option maxHeartbeats 400000 in
theorem wordPlaceOk_any (a b : Int) (w : World) :
    Calls Try.prog 44 #[.agg #[.int .i64 a, .int .i64 b]] w fun e w' => e = .returned (.bool (placeG a b)) ∧ Below w.heap.size w w' := by
  have hb := (Below.refl w.heap.size w).alloc (Nat.le_refl _) (.cells #[.int .i64 a, .int .i64 b] 31)
  by_cases h1 : 0 ≤ a
  · by_cases h2 : a < 16
    · by_cases h3 : 0 ≤ b
      · by_cases h4 : b < 120
        · have HE := Lib.hid (show placeG a b = true by simp [placeG, h1, h2, h3, h4])
          go_enter Try.func44, Try.ntmps44
          go_wp2
          go_ret
          exact ⟨ret_bool HE.out.symm, hb⟩
        · have HE := Lib.hid (show placeG a b = false by simp [placeG, h1, h2, h3, h4])
          go_enter Try.func44, Try.ntmps44
          go_wp2
          go_ret
          exact ⟨ret_bool HE.out.symm, hb⟩
      · have HE := Lib.hid (show placeG a b = false by simp [placeG, h1, h2, h3])
        go_enter Try.func44, Try.ntmps44
        go_wp2
        go_ret
        exact ⟨ret_bool HE.out.symm, hb⟩
    · have HE := Lib.hid (show placeG a b = false by simp [placeG, h1, h2])
      go_enter Try.func44, Try.ntmps44
      go_wp2
      go_ret
      exact ⟨ret_bool HE.out.symm, hb⟩
  · have HE := Lib.hid (show placeG a b = false by simp [placeG, h1])
    go_enter Try.func44, Try.ntmps44
    go_wp2
    go_ret
    exact ⟨ret_bool HE.out.symm, hb⟩
set_option maxHeartbeats 400000 in
theorem l8Pos_any (a b : Int) (w : World) :
    Calls Try.prog 41 #[.agg #[.int .i64 a, .int .i64 b]] w fun e w' => e = .returned (.bool (placeG a b)) ∧ Below w.heap.size w w' := by
  have hb := (Below.refl w.heap.size w).alloc (Nat.le_refl _) (.cells #[.int .i64 a, .int .i64 b] 31)
  by_cases h1 : 0 ≤ a
  · by_cases h2 : a < 16
    · by_cases h3 : 0 ≤ b
      · by_cases h4 : b < 120
        · have HE := Lib.hid (show placeG a b = true by simp [placeG, h1, h2, h3, h4])
          go_enter Try.func41, Try.ntmps41
          go_wp2
          go_ret
          exact ⟨ret_bool HE.out.symm, hb⟩
        · have HE := Lib.hid (show placeG a b = false by simp [placeG, h1, h2, h3, h4])
          go_enter Try.func41, Try.ntmps41
          go_wp2
          go_ret
          exact ⟨ret_bool HE.out.symm, hb⟩
      · have HE := Lib.hid (show placeG a b = false by simp [placeG, h1, h2, h3])
        go_enter Try.func41, Try.ntmps41
        go_wp2
        go_ret
        exact ⟨ret_bool HE.out.symm, hb⟩
    · have HE := Lib.hid (show placeG a b = false by simp [placeG, h1, h2])
      go_enter Try.func41, Try.ntmps41
      go_wp2
      go_ret
      exact ⟨ret_bool HE.out.symm, hb⟩
  · have HE := Lib.hid (show placeG a b = false by simp [placeG, h1])
    go_enter Try.func41, Try.ntmps41
    go_wp2
    go_ret
    exact ⟨ret_bool HE.out.symm, hb⟩
def getG (xs : List Sg) (k : Nat) : Sg := xs.getD k (0, 0, 0, 0)
def stepG (xs : List Sg) (k : Nat) : Bool := placeG (getG xs k).1 (getG xs k).2.1 && (placeG (getG xs k).2.2.1 (getG xs k).2.2.2 && (k == 0 || lessG (getG xs (k - 1)).1 (getG xs (k - 1)).2.1 (getG xs k).1 (getG xs k).2.1))
def orderG (xs : List Sg) : Bool := (List.range xs.length).all (stepG xs)
/-- They are in order, and each in its bounds. -/
def segsOk (xs : List Sg) : Bool := decide (xs.length ≤ 1280) && orderG xs
theorem orderG_at {xs : List Sg} {k : Nat} (h : k < xs.length) (hs : stepG xs k = false) : orderG xs = false := by
  rw [orderG, List.all_eq_false]
  exact ⟨k, List.mem_range.2 h, by rw [hs]; decide⟩
theorem orderG_all {xs : List Sg} (h : ∀ k, k < xs.length → stepG xs k = true) : orderG xs = true := by
  rw [orderG, List.all_eq_true]
  exact fun k hk => h k (List.mem_range.1 hk)
theorem getG_get {xs : List Sg} {k : Nat} (h : k < xs.length) : xs[k] = getG xs k := by
  rw [getG, List.getD_eq_getElem?_getD, List.getElem?_eq_getElem h, Option.getD_some]

theorem stepG_all {t : Sg} {k : Nat} {xs : List Sg} (h : getG xs k = t) : stepG xs k = (placeG t.1 t.2.1 && (placeG t.2.2.1 t.2.2.2 && (k == 0 || lessG (getG xs (k - 1)).1 (getG xs (k - 1)).2.1 t.1 t.2.1))) := by rw [← h]; rfl
theorem segsOk_no {xs : List Sg} {k : Nat} (h : k < xs.length) (hs : stepG xs k = false) : segsOk xs = false := by rw [segsOk, orderG_at h hs, Bool.and_false]
theorem segsOk_all {xs : List Sg} {n : Nat} (hn : ¬ n < xs.length) (h : ∀ j, j < n → stepG xs j = true) : segsOk xs = decide (xs.length ≤ 1280) := by rw [segsOk, orderG_all (fun k hk => h k (by omega)), Bool.and_true]
theorem more_step {xs : List Sg} {k : Nat} (h : ∀ j, j < k → stepG xs j = true) (hk : stepG xs k = true) : ∀ j, j < k + 1 → stepG xs j = true := fun j hj => if e : j = k then by rw [e]; exact hk else h j (by omega)

set_option maxRecDepth 100000 in
set_option linter.unusedSimpArgs false in
set_option maxHeartbeats 8000000 in
theorem specSegsOk_any (A : Option Addr) (c : Nat) (xs : List Sg) (w : World) (hl : xs.length ≤ 2 ^ 40) (hA : SlIs w A (rowG xs)) :
    Calls Try.prog 25 #[.slice A xs.length c] w fun e w' => e = .returned (.bool (segsOk xs)) ∧ Below w.heap.size w w' := by
  go_enter Try.func25, Try.ntmps25
  go_wp2
  go_loopw [3] (fun i wr => ∃ k : Nat, k ≤ xs.length ∧ i = .int .i64 k ∧ Below w.heap.size w wr ∧ Hid (∀ j, j < k → stepG xs j = true))
    (fun i _ => xs.length - (intOf i).toNat)
  case atStart => exact ⟨0, Nat.zero_le _, rfl, Below.refl _ _, fun j h => absurd h (Nat.not_lt_zero _)⟩
  case round =>
    obtain ⟨k, hk, rfl, hbw, HP⟩ := hrel
    by_cases hlt : k < xs.length
    · have hx : (k : Int) < (xs.length : Int) := by omega
      obtain ⟨g, off, rfl, hg, h0, h1, h2, h3⟩ := (hA.below hbw).seg hlt
      rw [getG_get hlt] at h0 h1 h2 h3
      obtain ⟨t, ht⟩ : ∃ t, getG xs k = t := ⟨_, rfl⟩
      have hst := stepG_all ht
      rw [ht] at h0 h1 h2 h3
      obtain ⟨t1, t2, t3, t4⟩ := t
      simp only at h0 h1 h2 h3 hst
      cases hp : placeG t1 t2
      · have HC1 := Lib.hid (fun W => by have := l8Pos_any t1 t2 W; rw [hp] at this; exact this)
        have HE := Lib.hid (segsOk_no hlt (by rw [hst, hp]; rfl))
        clear hst ht hp hA
        go_wp2
        refine wp_region_noPanic ?_
        refine wp_region_held_drew (S := (fun w' => w'.cell? ⟨g, off + k * 4, none⟩ = some (.int .i64 t1) ∧ w'.cell? ⟨g, off + k * 4 + 1, none⟩ = some (.int .i64 t2) ∧ w'.cell? ⟨g, off + k * 4 + 2, none⟩ = some (.int .i64 t3) ∧ w'.cell? ⟨g, off + k * 4 + 3, none⟩ = some (.int .i64 t4) ∧ Below wr.heap.size wr w')) (by kernel_rfl) (by exact ⟨h0, h1, h2, h3, (Below.refl _ wr).drew⟩) (fun hHeld => ?_)
        refine wpAnyH_take (i := 0) (v := ?valF0Ta) rfl (by kernel_rfl) (by kernel_rfl) (by kernel_rfl) (fun _ _ _ h => h) (Or.inl ⟨by rfl, ?yieF0Ta⟩) (by assumption) ?resF0Ta
        case yieF0Ta =>
          intro w hSw
          try dsimp only at hSw
          try obtain ⟨s0, s1, s2, s3, s4⟩ := hSw
          go_simp
          try with_reducible rfl
        try simp only [Act.put, List.setIfInBounds_toArray, List.set_cons_zero, List.set_cons_succ, List.getElem_toArray, List.getElem_cons_zero, List.getElem_cons_succ]
        refine wpAnyH_take (i := 1) (v := ?valF1Ta) rfl (by kernel_rfl) (by kernel_rfl) (by kernel_rfl) (fun _ _ _ h => h) (Or.inl ⟨by rfl, ?yieF1Ta⟩) (by assumption) ?resF1Ta
        case yieF1Ta =>
          intro w hSw
          try dsimp only at hSw
          try obtain ⟨s0, s1, s2, s3, s4⟩ := hSw
          go_simp
          try with_reducible rfl
        try simp only [Act.put, List.setIfInBounds_toArray, List.set_cons_zero, List.set_cons_succ, List.getElem_toArray, List.getElem_cons_zero, List.getElem_cons_succ]
        refine wpAnyH_take (i := 2) (v := ?valF2Ta) rfl (by kernel_rfl) (by kernel_rfl) (by kernel_rfl) (fun _ _ _ h => h) (Or.inl ⟨by rfl, ?yieF2Ta⟩) (by assumption) ?resF2Ta
        case yieF2Ta =>
          intro w hSw
          try dsimp only at hSw
          try obtain ⟨s0, s1, s2, s3, s4⟩ := hSw
          go_simp
          try with_reducible rfl
        try simp only [Act.put, List.setIfInBounds_toArray, List.set_cons_zero, List.set_cons_succ, List.getElem_toArray, List.getElem_cons_zero, List.getElem_cons_succ]
        refine wpAnyH_take (i := 3) (v := ?valF3Ta) rfl (by kernel_rfl) (by kernel_rfl) (by kernel_rfl) (fun _ _ _ h => h) (Or.inl ⟨by rfl, ?yieF3Ta⟩) (by assumption) ?resF3Ta
        case yieF3Ta =>
          intro w hSw
          try dsimp only at hSw
          try obtain ⟨s0, s1, s2, s3, s4⟩ := hSw
          go_simp
          try with_reducible rfl
        try simp only [Act.put, List.setIfInBounds_toArray, List.set_cons_zero, List.set_cons_succ, List.getElem_toArray, List.getElem_cons_zero, List.getElem_cons_succ]
        refine wpAnyH_take (i := 4) (v := ?valF4Ta) rfl (by kernel_rfl) (by kernel_rfl) (by kernel_rfl) (fun _ _ _ h => h) (Or.inl ⟨by rfl, ?yieF4Ta⟩) (by assumption) ?resF4Ta
        case yieF4Ta =>
          intro w hSw
          try dsimp only at hSw
          try obtain ⟨s0, s1, s2, s3, s4⟩ := hSw
          go_simp
          try with_reducible rfl
        try simp only [Act.put, List.setIfInBounds_toArray, List.set_cons_zero, List.set_cons_succ, List.getElem_toArray, List.getElem_cons_zero, List.getElem_cons_succ]
        refine wpAnyH_ready (rs := [5]) (by kernel_rfl) (by simp) ?_
        refine AllReadyH.cons rfl (fun K hK => ?_) AllReadyH.nil
        go_simp
        go_at_call 41
        refine (HC1.out _).mono ?_
        rintro e w2 ⟨rfl, hb2'⟩
        have hb2 : Below wr.heap.size wr w2 := (Below.refl _ wr).drew.trans hb2'
        go_wp2_with fail
        refine hK.out _ _ (by exact ⟨(hb2.cell (p := ⟨g, off + k * 4, none⟩) hg).trans h0, (hb2.cell (p := ⟨g, off + k * 4 + 1, none⟩) hg).trans h1, (hb2.cell (p := ⟨g, off + k * 4 + 2, none⟩) hg).trans h2, (hb2.cell (p := ⟨g, off + k * 4 + 3, none⟩) hg).trans h3, hb2⟩) (fun hHeld => ?_)
        clear hK K
        try simp only [Act.put, List.setIfInBounds_toArray, List.set_cons_zero, List.set_cons_succ, List.getElem_toArray, List.getElem_cons_zero, List.getElem_cons_succ]
        refine wpAnyH_take (i := 6) (v := ?valF6Ta) rfl (by kernel_rfl) (by kernel_rfl) (by kernel_rfl) (fun _ _ _ h => h) (Or.inl ⟨by rfl, ?yieF6Ta⟩) (by assumption) ?resF6Ta
        case yieF6Ta =>
          intro w hSw
          try dsimp only at hSw
          try obtain ⟨s0, s1, s2, s3, s4⟩ := hSw
          go_simp
          try with_reducible rfl
        try simp only [Act.put, List.setIfInBounds_toArray, List.set_cons_zero, List.set_cons_succ, List.getElem_toArray, List.getElem_cons_zero, List.getElem_cons_succ]
        refine wpAnyH_take (i := 7) (v := ?valF7Ta) rfl (by kernel_rfl) (by kernel_rfl) (by kernel_rfl) (fun _ _ _ h => h) (Or.inl ⟨by rfl, ?yieF7Ta⟩) (by assumption) ?resF7Ta
        case yieF7Ta =>
          intro w hSw
          try dsimp only at hSw
          try obtain ⟨s0, s1, s2, s3, s4⟩ := hSw
          go_simp
          try with_reducible rfl
        try simp only [Act.put, List.setIfInBounds_toArray, List.set_cons_zero, List.set_cons_succ, List.getElem_toArray, List.getElem_cons_zero, List.getElem_cons_succ]
        refine wpAnyH_take (i := 8) (v := undef) rfl (by kernel_rfl) (by kernel_rfl) (by kernel_rfl) (fun _ _ _ h => h) (Or.inr ⟨by rfl, rfl⟩) (by assumption) ?_
        try simp only [Act.put, List.setIfInBounds_toArray, List.set_cons_zero, List.set_cons_succ, List.getElem_toArray, List.getElem_cons_zero, List.getElem_cons_succ]
        refine wpAnyH_take (i := 9) (v := undef) rfl (by kernel_rfl) (by kernel_rfl) (by kernel_rfl) (fun _ _ _ h => h) (Or.inr ⟨by rfl, rfl⟩) (by assumption) ?_
        try simp only [Act.put, List.setIfInBounds_toArray, List.set_cons_zero, List.set_cons_succ, List.getElem_toArray, List.getElem_cons_zero, List.getElem_cons_succ]
        refine wpAnyH_take (i := 10) (v := undef) rfl (by kernel_rfl) (by kernel_rfl) (by kernel_rfl) (fun _ _ _ h => h) (Or.inr ⟨by rfl, rfl⟩) (by assumption) ?_
        try simp only [Act.put, List.setIfInBounds_toArray, List.set_cons_zero, List.set_cons_succ, List.getElem_toArray, List.getElem_cons_zero, List.getElem_cons_succ]
        refine wpAnyH_take (i := 11) (v := undef) rfl (by kernel_rfl) (by kernel_rfl) (by kernel_rfl) (fun _ _ _ h => h) (Or.inr ⟨by rfl, rfl⟩) (by assumption) ?_
        try simp only [Act.put, List.setIfInBounds_toArray, List.set_cons_zero, List.set_cons_succ, List.getElem_toArray, List.getElem_cons_zero, List.getElem_cons_succ]
        refine wpAnyH_take (i := 12) (v := undef) rfl (by kernel_rfl) (by kernel_rfl) (by kernel_rfl) (fun _ _ _ h => h) (Or.inr ⟨by rfl, rfl⟩) (by assumption) ?_
        try simp only [Act.put, List.setIfInBounds_toArray, List.set_cons_zero, List.set_cons_succ, List.getElem_toArray, List.getElem_cons_zero, List.getElem_cons_succ]
        refine wpAnyH_take (i := 13) (v := undef) rfl (by kernel_rfl) (by kernel_rfl) (by kernel_rfl) (fun _ _ _ h => h) (Or.inr ⟨by rfl, rfl⟩) (by assumption) ?_
        try simp only [Act.put, List.setIfInBounds_toArray, List.set_cons_zero, List.set_cons_succ, List.getElem_toArray, List.getElem_cons_zero, List.getElem_cons_succ]
        refine wpAnyH_take (i := 14) (v := undef) rfl (by kernel_rfl) (by kernel_rfl) (by kernel_rfl) (fun _ _ _ h => h) (Or.inr ⟨by rfl, rfl⟩) (by assumption) ?_
        try simp only [Act.put, List.setIfInBounds_toArray, List.set_cons_zero, List.set_cons_succ, List.getElem_toArray, List.getElem_cons_zero, List.getElem_cons_succ]
        refine wpAnyH_take (i := 15) (v := ?valF15Ta) rfl (by kernel_rfl) (by kernel_rfl) (by kernel_rfl) (fun _ _ _ h => h) (Or.inl ⟨by rfl, ?yieF15Ta⟩) (by assumption) ?resF15Ta
        case yieF15Ta =>
          intro w hSw
          try dsimp only at hSw
          try obtain ⟨s0, s1, s2, s3, s4⟩ := hSw
          go_simp
          try with_reducible rfl
        try simp only [Act.put, List.setIfInBounds_toArray, List.set_cons_zero, List.set_cons_succ, List.getElem_toArray, List.getElem_cons_zero, List.getElem_cons_succ]
        refine wpAnyH_take (i := 16) (v := ?valF16Ta) rfl (by kernel_rfl) (by kernel_rfl) (by kernel_rfl) (fun _ _ _ h => h) (Or.inl ⟨by rfl, ?yieF16Ta⟩) (by assumption) ?resF16Ta
        case yieF16Ta =>
          intro w hSw
          try dsimp only at hSw
          try obtain ⟨s0, s1, s2, s3, s4⟩ := hSw
          go_simp
          try with_reducible rfl
        try simp only [Act.put, List.setIfInBounds_toArray, List.set_cons_zero, List.set_cons_succ, List.getElem_toArray, List.getElem_cons_zero, List.getElem_cons_succ]
        refine wpAnyH_take (i := 17) (v := undef) rfl (by kernel_rfl) (by kernel_rfl) (by kernel_rfl) (fun _ _ _ h => h) (Or.inr ⟨by rfl, rfl⟩) (by assumption) ?_
        try simp only [Act.put, List.setIfInBounds_toArray, List.set_cons_zero, List.set_cons_succ, List.getElem_toArray, List.getElem_cons_zero, List.getElem_cons_succ]
        refine wpAnyH_take (i := 18) (v := undef) rfl (by kernel_rfl) (by kernel_rfl) (by kernel_rfl) (fun _ _ _ h => h) (Or.inr ⟨by rfl, rfl⟩) (by assumption) ?_
        try simp only [Act.put, List.setIfInBounds_toArray, List.set_cons_zero, List.set_cons_succ, List.getElem_toArray, List.getElem_cons_zero, List.getElem_cons_succ]
        refine wpAnyH_take (i := 19) (v := undef) rfl (by kernel_rfl) (by kernel_rfl) (by kernel_rfl) (fun _ _ _ h => h) (Or.inr ⟨by rfl, rfl⟩) (by assumption) ?_
        try simp only [Act.put, List.setIfInBounds_toArray, List.set_cons_zero, List.set_cons_succ, List.getElem_toArray, List.getElem_cons_zero, List.getElem_cons_succ]
        refine wpAnyH_take (i := 20) (v := undef) rfl (by kernel_rfl) (by kernel_rfl) (by kernel_rfl) (fun _ _ _ h => h) (Or.inr ⟨by rfl, rfl⟩) (by assumption) ?_
        try simp only [Act.put, List.setIfInBounds_toArray, List.set_cons_zero, List.set_cons_succ, List.getElem_toArray, List.getElem_cons_zero, List.getElem_cons_succ]
        refine wpAnyH_take (i := 21) (v := undef) rfl (by kernel_rfl) (by kernel_rfl) (by kernel_rfl) (fun _ _ _ h => h) (Or.inr ⟨by rfl, rfl⟩) (by assumption) ?_
        try simp only [Act.put, List.setIfInBounds_toArray, List.set_cons_zero, List.set_cons_succ, List.getElem_toArray, List.getElem_cons_zero, List.getElem_cons_succ]
        refine wpAnyH_take (i := 22) (v := undef) rfl (by kernel_rfl) (by kernel_rfl) (by kernel_rfl) (fun _ _ _ h => h) (Or.inr ⟨by rfl, rfl⟩) (by assumption) ?_
        try simp only [Act.put, List.setIfInBounds_toArray, List.set_cons_zero, List.set_cons_succ, List.getElem_toArray, List.getElem_cons_zero, List.getElem_cons_succ]
        refine wpAnyH_take (i := 23) (v := undef) rfl (by kernel_rfl) (by kernel_rfl) (by kernel_rfl) (fun _ _ _ h => h) (Or.inr ⟨by rfl, rfl⟩) (by assumption) ?_
        try simp only [Act.put, List.setIfInBounds_toArray, List.set_cons_zero, List.set_cons_succ, List.getElem_toArray, List.getElem_cons_zero, List.getElem_cons_succ]
        refine wpAnyH_take (i := 24) (v := undef) rfl (by kernel_rfl) (by kernel_rfl) (by kernel_rfl) (fun _ _ _ h => h) (Or.inr ⟨by rfl, rfl⟩) (by assumption) ?_
        try simp only [Act.put, List.setIfInBounds_toArray, List.set_cons_zero, List.set_cons_succ, List.getElem_toArray, List.getElem_cons_zero, List.getElem_cons_succ]
        refine wpAnyH_take (i := 25) (v := undef) rfl (by kernel_rfl) (by kernel_rfl) (by kernel_rfl) (fun _ _ _ h => h) (Or.inr ⟨by rfl, rfl⟩) (by assumption) ?_
        try simp only [Act.put, List.setIfInBounds_toArray, List.set_cons_zero, List.set_cons_succ, List.getElem_toArray, List.getElem_cons_zero, List.getElem_cons_succ]
        refine wpAnyH_take (i := 26) (v := undef) rfl (by kernel_rfl) (by kernel_rfl) (by kernel_rfl) (fun _ _ _ h => h) (Or.inr ⟨by rfl, rfl⟩) (by assumption) ?_
        try simp only [Act.put, List.setIfInBounds_toArray, List.set_cons_zero, List.set_cons_succ, List.getElem_toArray, List.getElem_cons_zero, List.getElem_cons_succ]
        refine wpAnyH_take (i := 27) (v := undef) rfl (by kernel_rfl) (by kernel_rfl) (by kernel_rfl) (fun _ _ _ h => h) (Or.inr ⟨by rfl, rfl⟩) (by assumption) ?_
        try simp only [Act.put, List.setIfInBounds_toArray, List.set_cons_zero, List.set_cons_succ, List.getElem_toArray, List.getElem_cons_zero, List.getElem_cons_succ]
        refine wpAnyH_take (i := 28) (v := undef) rfl (by kernel_rfl) (by kernel_rfl) (by kernel_rfl) (fun _ _ _ h => h) (Or.inr ⟨by rfl, rfl⟩) (by assumption) ?_
        try simp only [Act.put, List.setIfInBounds_toArray, List.set_cons_zero, List.set_cons_succ, List.getElem_toArray, List.getElem_cons_zero, List.getElem_cons_succ]
        refine wpAnyH_take (i := 29) (v := undef) rfl (by kernel_rfl) (by kernel_rfl) (by kernel_rfl) (fun _ _ _ h => h) (Or.inr ⟨by rfl, rfl⟩) (by assumption) ?_
        try simp only [Act.put, List.setIfInBounds_toArray, List.set_cons_zero, List.set_cons_succ, List.getElem_toArray, List.getElem_cons_zero, List.getElem_cons_succ]
        refine wpAnyH_take (i := 30) (v := undef) rfl (by kernel_rfl) (by kernel_rfl) (by kernel_rfl) (fun _ _ _ h => h) (Or.inr ⟨by rfl, rfl⟩) (by assumption) ?_
        try simp only [Act.put, List.setIfInBounds_toArray, List.set_cons_zero, List.set_cons_succ, List.getElem_toArray, List.getElem_cons_zero, List.getElem_cons_succ]
        refine wpAnyH_take (i := 31) (v := undef) rfl (by kernel_rfl) (by kernel_rfl) (by kernel_rfl) (fun _ _ _ h => h) (Or.inr ⟨by rfl, rfl⟩) (by assumption) ?_
        try simp only [Act.put, List.setIfInBounds_toArray, List.set_cons_zero, List.set_cons_succ, List.getElem_toArray, List.getElem_cons_zero, List.getElem_cons_succ]
        refine wpAnyH_take (i := 32) (v := undef) rfl (by kernel_rfl) (by kernel_rfl) (by kernel_rfl) (fun _ _ _ h => h) (Or.inr ⟨by rfl, rfl⟩) (by assumption) ?_
        try simp only [Act.put, List.setIfInBounds_toArray, List.set_cons_zero, List.set_cons_succ, List.getElem_toArray, List.getElem_cons_zero, List.getElem_cons_succ]
        refine wpAnyH_take (i := 33) (v := undef) rfl (by kernel_rfl) (by kernel_rfl) (by kernel_rfl) (fun _ _ _ h => h) (Or.inr ⟨by rfl, rfl⟩) (by assumption) ?_
        try simp only [Act.put, List.setIfInBounds_toArray, List.set_cons_zero, List.set_cons_succ, List.getElem_toArray, List.getElem_cons_zero, List.getElem_cons_succ]
        refine wpAnyH_take (i := 34) (v := ?valF34Ta) rfl (by kernel_rfl) (by kernel_rfl) (by kernel_rfl) (fun _ _ _ h => h) (Or.inl ⟨by rfl, ?yieF34Ta⟩) (by assumption) ?resF34Ta
        case yieF34Ta =>
          intro w hSw
          try dsimp only at hSw
          try obtain ⟨s0, s1, s2, s3, s4⟩ := hSw
          go_simp
          try with_reducible rfl
        try simp only [Act.put, List.setIfInBounds_toArray, List.set_cons_zero, List.set_cons_succ, List.getElem_toArray, List.getElem_cons_zero, List.getElem_cons_succ]
        refine wpAnyH_done (by kernel_rfl) ?_ _
        refine NoPanic.normal ?_
        go_wp2
        go_ret
        exact ⟨ret_bool HE.out.symm, hbw.trans (hb2.mono hbw.size)⟩
      cases hq : placeG t3 t4
      · have HC1 := Lib.hid (fun W => by have := l8Pos_any t1 t2 W; rw [hp] at this; exact this)
        have HC2 := Lib.hid (fun W => by have := l8Pos_any t3 t4 W; rw [hq] at this; exact this)
        have HE := Lib.hid (segsOk_no hlt (by rw [hst, hp, hq]; rfl))
        clear hst ht hp hq hA
        go_wp2
        refine wp_region_noPanic ?_
        refine wp_region_held_drew (S := (fun w' => w'.cell? ⟨g, off + k * 4, none⟩ = some (.int .i64 t1) ∧ w'.cell? ⟨g, off + k * 4 + 1, none⟩ = some (.int .i64 t2) ∧ w'.cell? ⟨g, off + k * 4 + 2, none⟩ = some (.int .i64 t3) ∧ w'.cell? ⟨g, off + k * 4 + 3, none⟩ = some (.int .i64 t4) ∧ Below wr.heap.size wr w')) (by kernel_rfl) (by exact ⟨h0, h1, h2, h3, (Below.refl _ wr).drew⟩) (fun hHeld => ?_)
        refine wpAnyH_take (i := 0) (v := ?valF0Tb) rfl (by kernel_rfl) (by kernel_rfl) (by kernel_rfl) (fun _ _ _ h => h) (Or.inl ⟨by rfl, ?yieF0Tb⟩) (by assumption) ?resF0Tb
        case yieF0Tb =>
          intro w hSw
          try dsimp only at hSw
          try obtain ⟨s0, s1, s2, s3, s4⟩ := hSw
          go_simp
          try with_reducible rfl
        try simp only [Act.put, List.setIfInBounds_toArray, List.set_cons_zero, List.set_cons_succ, List.getElem_toArray, List.getElem_cons_zero, List.getElem_cons_succ]
        refine wpAnyH_take (i := 1) (v := ?valF1Tb) rfl (by kernel_rfl) (by kernel_rfl) (by kernel_rfl) (fun _ _ _ h => h) (Or.inl ⟨by rfl, ?yieF1Tb⟩) (by assumption) ?resF1Tb
        case yieF1Tb =>
          intro w hSw
          try dsimp only at hSw
          try obtain ⟨s0, s1, s2, s3, s4⟩ := hSw
          go_simp
          try with_reducible rfl
        try simp only [Act.put, List.setIfInBounds_toArray, List.set_cons_zero, List.set_cons_succ, List.getElem_toArray, List.getElem_cons_zero, List.getElem_cons_succ]
        refine wpAnyH_take (i := 2) (v := ?valF2Tb) rfl (by kernel_rfl) (by kernel_rfl) (by kernel_rfl) (fun _ _ _ h => h) (Or.inl ⟨by rfl, ?yieF2Tb⟩) (by assumption) ?resF2Tb
        case yieF2Tb =>
          intro w hSw
          try dsimp only at hSw
          try obtain ⟨s0, s1, s2, s3, s4⟩ := hSw
          go_simp
          try with_reducible rfl
        try simp only [Act.put, List.setIfInBounds_toArray, List.set_cons_zero, List.set_cons_succ, List.getElem_toArray, List.getElem_cons_zero, List.getElem_cons_succ]
        refine wpAnyH_take (i := 3) (v := ?valF3Tb) rfl (by kernel_rfl) (by kernel_rfl) (by kernel_rfl) (fun _ _ _ h => h) (Or.inl ⟨by rfl, ?yieF3Tb⟩) (by assumption) ?resF3Tb
        case yieF3Tb =>
          intro w hSw
          try dsimp only at hSw
          try obtain ⟨s0, s1, s2, s3, s4⟩ := hSw
          go_simp
          try with_reducible rfl
        try simp only [Act.put, List.setIfInBounds_toArray, List.set_cons_zero, List.set_cons_succ, List.getElem_toArray, List.getElem_cons_zero, List.getElem_cons_succ]
        refine wpAnyH_take (i := 4) (v := ?valF4Tb) rfl (by kernel_rfl) (by kernel_rfl) (by kernel_rfl) (fun _ _ _ h => h) (Or.inl ⟨by rfl, ?yieF4Tb⟩) (by assumption) ?resF4Tb
        case yieF4Tb =>
          intro w hSw
          try dsimp only at hSw
          try obtain ⟨s0, s1, s2, s3, s4⟩ := hSw
          go_simp
          try with_reducible rfl
        try simp only [Act.put, List.setIfInBounds_toArray, List.set_cons_zero, List.set_cons_succ, List.getElem_toArray, List.getElem_cons_zero, List.getElem_cons_succ]
        refine wpAnyH_ready (rs := [5]) (by kernel_rfl) (by simp) ?_
        refine AllReadyH.cons rfl (fun K hK => ?_) AllReadyH.nil
        go_simp
        go_at_call 41
        refine (HC1.out _).mono ?_
        rintro e w2 ⟨rfl, hb2'⟩
        have hb2 : Below wr.heap.size wr w2 := (Below.refl _ wr).drew.trans hb2'
        go_wp2_with fail
        refine hK.out _ _ (by exact ⟨(hb2.cell (p := ⟨g, off + k * 4, none⟩) hg).trans h0, (hb2.cell (p := ⟨g, off + k * 4 + 1, none⟩) hg).trans h1, (hb2.cell (p := ⟨g, off + k * 4 + 2, none⟩) hg).trans h2, (hb2.cell (p := ⟨g, off + k * 4 + 3, none⟩) hg).trans h3, hb2⟩) (fun hHeld => ?_)
        clear hK K
        try simp only [Act.put, List.setIfInBounds_toArray, List.set_cons_zero, List.set_cons_succ, List.getElem_toArray, List.getElem_cons_zero, List.getElem_cons_succ]
        refine wpAnyH_take (i := 6) (v := ?valF6Tb) rfl (by kernel_rfl) (by kernel_rfl) (by kernel_rfl) (fun _ _ _ h => h) (Or.inl ⟨by rfl, ?yieF6Tb⟩) (by assumption) ?resF6Tb
        case yieF6Tb =>
          intro w hSw
          try dsimp only at hSw
          try obtain ⟨s0, s1, s2, s3, s4⟩ := hSw
          go_simp
          try with_reducible rfl
        try simp only [Act.put, List.setIfInBounds_toArray, List.set_cons_zero, List.set_cons_succ, List.getElem_toArray, List.getElem_cons_zero, List.getElem_cons_succ]
        refine wpAnyH_take (i := 7) (v := ?valF7Tb) rfl (by kernel_rfl) (by kernel_rfl) (by kernel_rfl) (fun _ _ _ h => h) (Or.inl ⟨by rfl, ?yieF7Tb⟩) (by assumption) ?resF7Tb
        case yieF7Tb =>
          intro w hSw
          try dsimp only at hSw
          try obtain ⟨s0, s1, s2, s3, s4⟩ := hSw
          go_simp
          try with_reducible rfl
        try simp only [Act.put, List.setIfInBounds_toArray, List.set_cons_zero, List.set_cons_succ, List.getElem_toArray, List.getElem_cons_zero, List.getElem_cons_succ]
        refine wpAnyH_take (i := 8) (v := ?valF8Tb) rfl (by kernel_rfl) (by kernel_rfl) (by kernel_rfl) (fun _ _ _ h => h) (Or.inl ⟨by rfl, ?yieF8Tb⟩) (by assumption) ?resF8Tb
        case yieF8Tb =>
          intro w hSw
          try dsimp only at hSw
          try obtain ⟨s0, s1, s2, s3, s4⟩ := hSw
          go_simp
          try with_reducible rfl
        try simp only [Act.put, List.setIfInBounds_toArray, List.set_cons_zero, List.set_cons_succ, List.getElem_toArray, List.getElem_cons_zero, List.getElem_cons_succ]
        refine wpAnyH_take (i := 9) (v := ?valF9Tb) rfl (by kernel_rfl) (by kernel_rfl) (by kernel_rfl) (fun _ _ _ h => h) (Or.inl ⟨by rfl, ?yieF9Tb⟩) (by assumption) ?resF9Tb
        case yieF9Tb =>
          intro w hSw
          try dsimp only at hSw
          try obtain ⟨s0, s1, s2, s3, s4⟩ := hSw
          go_simp
          try with_reducible rfl
        try simp only [Act.put, List.setIfInBounds_toArray, List.set_cons_zero, List.set_cons_succ, List.getElem_toArray, List.getElem_cons_zero, List.getElem_cons_succ]
        refine wpAnyH_take (i := 10) (v := ?valF10Tb) rfl (by kernel_rfl) (by kernel_rfl) (by kernel_rfl) (fun _ _ _ h => h) (Or.inl ⟨by rfl, ?yieF10Tb⟩) (by assumption) ?resF10Tb
        case yieF10Tb =>
          intro w hSw
          try dsimp only at hSw
          try obtain ⟨s0, s1, s2, s3, s4⟩ := hSw
          go_simp
          try with_reducible rfl
        try simp only [Act.put, List.setIfInBounds_toArray, List.set_cons_zero, List.set_cons_succ, List.getElem_toArray, List.getElem_cons_zero, List.getElem_cons_succ]
        refine wpAnyH_take (i := 11) (v := ?valF11Tb) rfl (by kernel_rfl) (by kernel_rfl) (by kernel_rfl) (fun _ _ _ h => h) (Or.inl ⟨by rfl, ?yieF11Tb⟩) (by assumption) ?resF11Tb
        case yieF11Tb =>
          intro w hSw
          try dsimp only at hSw
          try obtain ⟨s0, s1, s2, s3, s4⟩ := hSw
          go_simp
          try with_reducible rfl
        try simp only [Act.put, List.setIfInBounds_toArray, List.set_cons_zero, List.set_cons_succ, List.getElem_toArray, List.getElem_cons_zero, List.getElem_cons_succ]
        refine wpAnyH_take (i := 12) (v := ?valF12Tb) rfl (by kernel_rfl) (by kernel_rfl) (by kernel_rfl) (fun _ _ _ h => h) (Or.inl ⟨by rfl, ?yieF12Tb⟩) (by assumption) ?resF12Tb
        case yieF12Tb =>
          intro w hSw
          try dsimp only at hSw
          try obtain ⟨s0, s1, s2, s3, s4⟩ := hSw
          go_simp
          try with_reducible rfl
        try simp only [Act.put, List.setIfInBounds_toArray, List.set_cons_zero, List.set_cons_succ, List.getElem_toArray, List.getElem_cons_zero, List.getElem_cons_succ]
        refine wpAnyH_ready (rs := [13]) (by kernel_rfl) (by simp) ?_
        refine AllReadyH.cons rfl (fun K hK => ?_) AllReadyH.nil
        go_simp
        go_at_call 41
        refine (HC2.out _).mono ?_
        rintro e w3 ⟨rfl, hb3'⟩
        have hb3 : Below wr.heap.size wr w3 := hb2.trans (hb3'.mono hb2.size)
        go_wp2_with fail
        refine hK.out _ _ (by exact ⟨(hb3.cell (p := ⟨g, off + k * 4, none⟩) hg).trans h0, (hb3.cell (p := ⟨g, off + k * 4 + 1, none⟩) hg).trans h1, (hb3.cell (p := ⟨g, off + k * 4 + 2, none⟩) hg).trans h2, (hb3.cell (p := ⟨g, off + k * 4 + 3, none⟩) hg).trans h3, hb3⟩) (fun hHeld => ?_)
        clear hK K
        try simp only [Act.put, List.setIfInBounds_toArray, List.set_cons_zero, List.set_cons_succ, List.getElem_toArray, List.getElem_cons_zero, List.getElem_cons_succ]
        refine wpAnyH_take (i := 14) (v := ?valF14Tb) rfl (by kernel_rfl) (by kernel_rfl) (by kernel_rfl) (fun _ _ _ h => h) (Or.inl ⟨by rfl, ?yieF14Tb⟩) (by assumption) ?resF14Tb
        case yieF14Tb =>
          intro w hSw
          try dsimp only at hSw
          try obtain ⟨s0, s1, s2, s3, s4⟩ := hSw
          go_simp
          try with_reducible rfl
        try simp only [Act.put, List.setIfInBounds_toArray, List.set_cons_zero, List.set_cons_succ, List.getElem_toArray, List.getElem_cons_zero, List.getElem_cons_succ]
        refine wpAnyH_take (i := 15) (v := ?valF15Tb) rfl (by kernel_rfl) (by kernel_rfl) (by kernel_rfl) (fun _ _ _ h => h) (Or.inl ⟨by rfl, ?yieF15Tb⟩) (by assumption) ?resF15Tb
        case yieF15Tb =>
          intro w hSw
          try dsimp only at hSw
          try obtain ⟨s0, s1, s2, s3, s4⟩ := hSw
          go_simp
          try with_reducible rfl
        try simp only [Act.put, List.setIfInBounds_toArray, List.set_cons_zero, List.set_cons_succ, List.getElem_toArray, List.getElem_cons_zero, List.getElem_cons_succ]
        refine wpAnyH_take (i := 16) (v := ?valF16Tb) rfl (by kernel_rfl) (by kernel_rfl) (by kernel_rfl) (fun _ _ _ h => h) (Or.inl ⟨by rfl, ?yieF16Tb⟩) (by assumption) ?resF16Tb
        case yieF16Tb =>
          intro w hSw
          try dsimp only at hSw
          try obtain ⟨s0, s1, s2, s3, s4⟩ := hSw
          go_simp
          try with_reducible rfl
        try simp only [Act.put, List.setIfInBounds_toArray, List.set_cons_zero, List.set_cons_succ, List.getElem_toArray, List.getElem_cons_zero, List.getElem_cons_succ]
        refine wpAnyH_take (i := 17) (v := undef) rfl (by kernel_rfl) (by kernel_rfl) (by kernel_rfl) (fun _ _ _ h => h) (Or.inr ⟨by rfl, rfl⟩) (by assumption) ?_
        try simp only [Act.put, List.setIfInBounds_toArray, List.set_cons_zero, List.set_cons_succ, List.getElem_toArray, List.getElem_cons_zero, List.getElem_cons_succ]
        refine wpAnyH_take (i := 18) (v := undef) rfl (by kernel_rfl) (by kernel_rfl) (by kernel_rfl) (fun _ _ _ h => h) (Or.inr ⟨by rfl, rfl⟩) (by assumption) ?_
        try simp only [Act.put, List.setIfInBounds_toArray, List.set_cons_zero, List.set_cons_succ, List.getElem_toArray, List.getElem_cons_zero, List.getElem_cons_succ]
        refine wpAnyH_take (i := 19) (v := undef) rfl (by kernel_rfl) (by kernel_rfl) (by kernel_rfl) (fun _ _ _ h => h) (Or.inr ⟨by rfl, rfl⟩) (by assumption) ?_
        try simp only [Act.put, List.setIfInBounds_toArray, List.set_cons_zero, List.set_cons_succ, List.getElem_toArray, List.getElem_cons_zero, List.getElem_cons_succ]
        refine wpAnyH_take (i := 20) (v := undef) rfl (by kernel_rfl) (by kernel_rfl) (by kernel_rfl) (fun _ _ _ h => h) (Or.inr ⟨by rfl, rfl⟩) (by assumption) ?_
        try simp only [Act.put, List.setIfInBounds_toArray, List.set_cons_zero, List.set_cons_succ, List.getElem_toArray, List.getElem_cons_zero, List.getElem_cons_succ]
        refine wpAnyH_take (i := 21) (v := undef) rfl (by kernel_rfl) (by kernel_rfl) (by kernel_rfl) (fun _ _ _ h => h) (Or.inr ⟨by rfl, rfl⟩) (by assumption) ?_
        try simp only [Act.put, List.setIfInBounds_toArray, List.set_cons_zero, List.set_cons_succ, List.getElem_toArray, List.getElem_cons_zero, List.getElem_cons_succ]
        refine wpAnyH_take (i := 22) (v := undef) rfl (by kernel_rfl) (by kernel_rfl) (by kernel_rfl) (fun _ _ _ h => h) (Or.inr ⟨by rfl, rfl⟩) (by assumption) ?_
        try simp only [Act.put, List.setIfInBounds_toArray, List.set_cons_zero, List.set_cons_succ, List.getElem_toArray, List.getElem_cons_zero, List.getElem_cons_succ]
        refine wpAnyH_take (i := 23) (v := undef) rfl (by kernel_rfl) (by kernel_rfl) (by kernel_rfl) (fun _ _ _ h => h) (Or.inr ⟨by rfl, rfl⟩) (by assumption) ?_
        try simp only [Act.put, List.setIfInBounds_toArray, List.set_cons_zero, List.set_cons_succ, List.getElem_toArray, List.getElem_cons_zero, List.getElem_cons_succ]
        refine wpAnyH_take (i := 24) (v := undef) rfl (by kernel_rfl) (by kernel_rfl) (by kernel_rfl) (fun _ _ _ h => h) (Or.inr ⟨by rfl, rfl⟩) (by assumption) ?_
        try simp only [Act.put, List.setIfInBounds_toArray, List.set_cons_zero, List.set_cons_succ, List.getElem_toArray, List.getElem_cons_zero, List.getElem_cons_succ]
        refine wpAnyH_take (i := 25) (v := undef) rfl (by kernel_rfl) (by kernel_rfl) (by kernel_rfl) (fun _ _ _ h => h) (Or.inr ⟨by rfl, rfl⟩) (by assumption) ?_
        try simp only [Act.put, List.setIfInBounds_toArray, List.set_cons_zero, List.set_cons_succ, List.getElem_toArray, List.getElem_cons_zero, List.getElem_cons_succ]
        refine wpAnyH_take (i := 26) (v := undef) rfl (by kernel_rfl) (by kernel_rfl) (by kernel_rfl) (fun _ _ _ h => h) (Or.inr ⟨by rfl, rfl⟩) (by assumption) ?_
        try simp only [Act.put, List.setIfInBounds_toArray, List.set_cons_zero, List.set_cons_succ, List.getElem_toArray, List.getElem_cons_zero, List.getElem_cons_succ]
        refine wpAnyH_take (i := 27) (v := undef) rfl (by kernel_rfl) (by kernel_rfl) (by kernel_rfl) (fun _ _ _ h => h) (Or.inr ⟨by rfl, rfl⟩) (by assumption) ?_
        try simp only [Act.put, List.setIfInBounds_toArray, List.set_cons_zero, List.set_cons_succ, List.getElem_toArray, List.getElem_cons_zero, List.getElem_cons_succ]
        refine wpAnyH_take (i := 28) (v := undef) rfl (by kernel_rfl) (by kernel_rfl) (by kernel_rfl) (fun _ _ _ h => h) (Or.inr ⟨by rfl, rfl⟩) (by assumption) ?_
        try simp only [Act.put, List.setIfInBounds_toArray, List.set_cons_zero, List.set_cons_succ, List.getElem_toArray, List.getElem_cons_zero, List.getElem_cons_succ]
        refine wpAnyH_take (i := 29) (v := undef) rfl (by kernel_rfl) (by kernel_rfl) (by kernel_rfl) (fun _ _ _ h => h) (Or.inr ⟨by rfl, rfl⟩) (by assumption) ?_
        try simp only [Act.put, List.setIfInBounds_toArray, List.set_cons_zero, List.set_cons_succ, List.getElem_toArray, List.getElem_cons_zero, List.getElem_cons_succ]
        refine wpAnyH_take (i := 30) (v := undef) rfl (by kernel_rfl) (by kernel_rfl) (by kernel_rfl) (fun _ _ _ h => h) (Or.inr ⟨by rfl, rfl⟩) (by assumption) ?_
        try simp only [Act.put, List.setIfInBounds_toArray, List.set_cons_zero, List.set_cons_succ, List.getElem_toArray, List.getElem_cons_zero, List.getElem_cons_succ]
        refine wpAnyH_take (i := 31) (v := undef) rfl (by kernel_rfl) (by kernel_rfl) (by kernel_rfl) (fun _ _ _ h => h) (Or.inr ⟨by rfl, rfl⟩) (by assumption) ?_
        try simp only [Act.put, List.setIfInBounds_toArray, List.set_cons_zero, List.set_cons_succ, List.getElem_toArray, List.getElem_cons_zero, List.getElem_cons_succ]
        refine wpAnyH_take (i := 32) (v := undef) rfl (by kernel_rfl) (by kernel_rfl) (by kernel_rfl) (fun _ _ _ h => h) (Or.inr ⟨by rfl, rfl⟩) (by assumption) ?_
        try simp only [Act.put, List.setIfInBounds_toArray, List.set_cons_zero, List.set_cons_succ, List.getElem_toArray, List.getElem_cons_zero, List.getElem_cons_succ]
        refine wpAnyH_take (i := 33) (v := undef) rfl (by kernel_rfl) (by kernel_rfl) (by kernel_rfl) (fun _ _ _ h => h) (Or.inr ⟨by rfl, rfl⟩) (by assumption) ?_
        try simp only [Act.put, List.setIfInBounds_toArray, List.set_cons_zero, List.set_cons_succ, List.getElem_toArray, List.getElem_cons_zero, List.getElem_cons_succ]
        refine wpAnyH_take (i := 34) (v := ?valF34Tb) rfl (by kernel_rfl) (by kernel_rfl) (by kernel_rfl) (fun _ _ _ h => h) (Or.inl ⟨by rfl, ?yieF34Tb⟩) (by assumption) ?resF34Tb
        case yieF34Tb =>
          intro w hSw
          try dsimp only at hSw
          try obtain ⟨s0, s1, s2, s3, s4⟩ := hSw
          go_simp
          try with_reducible rfl
        try simp only [Act.put, List.setIfInBounds_toArray, List.set_cons_zero, List.set_cons_succ, List.getElem_toArray, List.getElem_cons_zero, List.getElem_cons_succ]
        refine wpAnyH_done (by kernel_rfl) ?_ _
        refine NoPanic.normal ?_
        go_wp2
        go_ret
        exact ⟨ret_bool HE.out.symm, hbw.trans (hb3.mono hbw.size)⟩
      by_cases hk0 : k = 0
      · have HC1 := Lib.hid (fun W => by have := l8Pos_any t1 t2 W; rw [hp] at this; exact this)
        have HC2 := Lib.hid (fun W => by have := l8Pos_any t3 t4 W; rw [hq] at this; exact this)
        have HM := Lib.hid (more_step HP.out (by rw [hst, hp, hq, hk0]; rfl))
        have hg0 : decide ((k : Int) > 0) = false := by rw [decide_eq_false_iff_not]; omega
        have hg1 : decide (0 < (k : Int)) = false := by rw [decide_eq_false_iff_not]; omega
        have hgN : decide (0 < k) = false := by rw [decide_eq_false_iff_not]; omega
        clear hst ht hp hq hA hk0
        go_wp2
        refine wp_region_noPanic ?_
        refine wp_region_held_drew (S := (fun w' => w'.cell? ⟨g, off + k * 4, none⟩ = some (.int .i64 t1) ∧ w'.cell? ⟨g, off + k * 4 + 1, none⟩ = some (.int .i64 t2) ∧ w'.cell? ⟨g, off + k * 4 + 2, none⟩ = some (.int .i64 t3) ∧ w'.cell? ⟨g, off + k * 4 + 3, none⟩ = some (.int .i64 t4) ∧ Below wr.heap.size wr w')) (by kernel_rfl) (by exact ⟨h0, h1, h2, h3, (Below.refl _ wr).drew⟩) (fun hHeld => ?_)
        refine wpAnyH_take (i := 0) (v := ?valF0Tc) rfl (by kernel_rfl) (by kernel_rfl) (by kernel_rfl) (fun _ _ _ h => h) (Or.inl ⟨by rfl, ?yieF0Tc⟩) (by assumption) ?resF0Tc
        case yieF0Tc =>
          intro w hSw
          try dsimp only at hSw
          try obtain ⟨s0, s1, s2, s3, s4⟩ := hSw
          go_simp
          try with_reducible rfl
        try simp only [Act.put, List.setIfInBounds_toArray, List.set_cons_zero, List.set_cons_succ, List.getElem_toArray, List.getElem_cons_zero, List.getElem_cons_succ]
        refine wpAnyH_take (i := 1) (v := ?valF1Tc) rfl (by kernel_rfl) (by kernel_rfl) (by kernel_rfl) (fun _ _ _ h => h) (Or.inl ⟨by rfl, ?yieF1Tc⟩) (by assumption) ?resF1Tc
        case yieF1Tc =>
          intro w hSw
          try dsimp only at hSw
          try obtain ⟨s0, s1, s2, s3, s4⟩ := hSw
          go_simp
          try with_reducible rfl
        try simp only [Act.put, List.setIfInBounds_toArray, List.set_cons_zero, List.set_cons_succ, List.getElem_toArray, List.getElem_cons_zero, List.getElem_cons_succ]
        refine wpAnyH_take (i := 2) (v := ?valF2Tc) rfl (by kernel_rfl) (by kernel_rfl) (by kernel_rfl) (fun _ _ _ h => h) (Or.inl ⟨by rfl, ?yieF2Tc⟩) (by assumption) ?resF2Tc
        case yieF2Tc =>
          intro w hSw
          try dsimp only at hSw
          try obtain ⟨s0, s1, s2, s3, s4⟩ := hSw
          go_simp
          try with_reducible rfl
        try simp only [Act.put, List.setIfInBounds_toArray, List.set_cons_zero, List.set_cons_succ, List.getElem_toArray, List.getElem_cons_zero, List.getElem_cons_succ]
        refine wpAnyH_take (i := 3) (v := ?valF3Tc) rfl (by kernel_rfl) (by kernel_rfl) (by kernel_rfl) (fun _ _ _ h => h) (Or.inl ⟨by rfl, ?yieF3Tc⟩) (by assumption) ?resF3Tc
        case yieF3Tc =>
          intro w hSw
          try dsimp only at hSw
          try obtain ⟨s0, s1, s2, s3, s4⟩ := hSw
          go_simp
          try with_reducible rfl
        try simp only [Act.put, List.setIfInBounds_toArray, List.set_cons_zero, List.set_cons_succ, List.getElem_toArray, List.getElem_cons_zero, List.getElem_cons_succ]
        refine wpAnyH_take (i := 4) (v := ?valF4Tc) rfl (by kernel_rfl) (by kernel_rfl) (by kernel_rfl) (fun _ _ _ h => h) (Or.inl ⟨by rfl, ?yieF4Tc⟩) (by assumption) ?resF4Tc
        case yieF4Tc =>
          intro w hSw
          try dsimp only at hSw
          try obtain ⟨s0, s1, s2, s3, s4⟩ := hSw
          go_simp
          try with_reducible rfl
        try simp only [Act.put, List.setIfInBounds_toArray, List.set_cons_zero, List.set_cons_succ, List.getElem_toArray, List.getElem_cons_zero, List.getElem_cons_succ]
        refine wpAnyH_ready (rs := [5]) (by kernel_rfl) (by simp) ?_
        refine AllReadyH.cons rfl (fun K hK => ?_) AllReadyH.nil
        go_simp
        go_at_call 41
        refine (HC1.out _).mono ?_
        rintro e w2 ⟨rfl, hb2'⟩
        have hb2 : Below wr.heap.size wr w2 := (Below.refl _ wr).drew.trans hb2'
        go_wp2_with fail
        refine hK.out _ _ (by exact ⟨(hb2.cell (p := ⟨g, off + k * 4, none⟩) hg).trans h0, (hb2.cell (p := ⟨g, off + k * 4 + 1, none⟩) hg).trans h1, (hb2.cell (p := ⟨g, off + k * 4 + 2, none⟩) hg).trans h2, (hb2.cell (p := ⟨g, off + k * 4 + 3, none⟩) hg).trans h3, hb2⟩) (fun hHeld => ?_)
        clear hK K
        try simp only [Act.put, List.setIfInBounds_toArray, List.set_cons_zero, List.set_cons_succ, List.getElem_toArray, List.getElem_cons_zero, List.getElem_cons_succ]
        refine wpAnyH_take (i := 6) (v := ?valF6Tc) rfl (by kernel_rfl) (by kernel_rfl) (by kernel_rfl) (fun _ _ _ h => h) (Or.inl ⟨by rfl, ?yieF6Tc⟩) (by assumption) ?resF6Tc
        case yieF6Tc =>
          intro w hSw
          try dsimp only at hSw
          try obtain ⟨s0, s1, s2, s3, s4⟩ := hSw
          go_simp
          try with_reducible rfl
        try simp only [Act.put, List.setIfInBounds_toArray, List.set_cons_zero, List.set_cons_succ, List.getElem_toArray, List.getElem_cons_zero, List.getElem_cons_succ]
        refine wpAnyH_take (i := 7) (v := ?valF7Tc) rfl (by kernel_rfl) (by kernel_rfl) (by kernel_rfl) (fun _ _ _ h => h) (Or.inl ⟨by rfl, ?yieF7Tc⟩) (by assumption) ?resF7Tc
        case yieF7Tc =>
          intro w hSw
          try dsimp only at hSw
          try obtain ⟨s0, s1, s2, s3, s4⟩ := hSw
          go_simp
          try with_reducible rfl
        try simp only [Act.put, List.setIfInBounds_toArray, List.set_cons_zero, List.set_cons_succ, List.getElem_toArray, List.getElem_cons_zero, List.getElem_cons_succ]
        refine wpAnyH_take (i := 8) (v := ?valF8Tc) rfl (by kernel_rfl) (by kernel_rfl) (by kernel_rfl) (fun _ _ _ h => h) (Or.inl ⟨by rfl, ?yieF8Tc⟩) (by assumption) ?resF8Tc
        case yieF8Tc =>
          intro w hSw
          try dsimp only at hSw
          try obtain ⟨s0, s1, s2, s3, s4⟩ := hSw
          go_simp
          try with_reducible rfl
        try simp only [Act.put, List.setIfInBounds_toArray, List.set_cons_zero, List.set_cons_succ, List.getElem_toArray, List.getElem_cons_zero, List.getElem_cons_succ]
        refine wpAnyH_take (i := 9) (v := ?valF9Tc) rfl (by kernel_rfl) (by kernel_rfl) (by kernel_rfl) (fun _ _ _ h => h) (Or.inl ⟨by rfl, ?yieF9Tc⟩) (by assumption) ?resF9Tc
        case yieF9Tc =>
          intro w hSw
          try dsimp only at hSw
          try obtain ⟨s0, s1, s2, s3, s4⟩ := hSw
          go_simp
          try with_reducible rfl
        try simp only [Act.put, List.setIfInBounds_toArray, List.set_cons_zero, List.set_cons_succ, List.getElem_toArray, List.getElem_cons_zero, List.getElem_cons_succ]
        refine wpAnyH_take (i := 10) (v := ?valF10Tc) rfl (by kernel_rfl) (by kernel_rfl) (by kernel_rfl) (fun _ _ _ h => h) (Or.inl ⟨by rfl, ?yieF10Tc⟩) (by assumption) ?resF10Tc
        case yieF10Tc =>
          intro w hSw
          try dsimp only at hSw
          try obtain ⟨s0, s1, s2, s3, s4⟩ := hSw
          go_simp
          try with_reducible rfl
        try simp only [Act.put, List.setIfInBounds_toArray, List.set_cons_zero, List.set_cons_succ, List.getElem_toArray, List.getElem_cons_zero, List.getElem_cons_succ]
        refine wpAnyH_take (i := 11) (v := ?valF11Tc) rfl (by kernel_rfl) (by kernel_rfl) (by kernel_rfl) (fun _ _ _ h => h) (Or.inl ⟨by rfl, ?yieF11Tc⟩) (by assumption) ?resF11Tc
        case yieF11Tc =>
          intro w hSw
          try dsimp only at hSw
          try obtain ⟨s0, s1, s2, s3, s4⟩ := hSw
          go_simp
          try with_reducible rfl
        try simp only [Act.put, List.setIfInBounds_toArray, List.set_cons_zero, List.set_cons_succ, List.getElem_toArray, List.getElem_cons_zero, List.getElem_cons_succ]
        refine wpAnyH_take (i := 12) (v := ?valF12Tc) rfl (by kernel_rfl) (by kernel_rfl) (by kernel_rfl) (fun _ _ _ h => h) (Or.inl ⟨by rfl, ?yieF12Tc⟩) (by assumption) ?resF12Tc
        case yieF12Tc =>
          intro w hSw
          try dsimp only at hSw
          try obtain ⟨s0, s1, s2, s3, s4⟩ := hSw
          go_simp
          try with_reducible rfl
        try simp only [Act.put, List.setIfInBounds_toArray, List.set_cons_zero, List.set_cons_succ, List.getElem_toArray, List.getElem_cons_zero, List.getElem_cons_succ]
        refine wpAnyH_ready (rs := [13]) (by kernel_rfl) (by simp) ?_
        refine AllReadyH.cons rfl (fun K hK => ?_) AllReadyH.nil
        go_simp
        go_at_call 41
        refine (HC2.out _).mono ?_
        rintro e w3 ⟨rfl, hb3'⟩
        have hb3 : Below wr.heap.size wr w3 := hb2.trans (hb3'.mono hb2.size)
        go_wp2_with fail
        refine hK.out _ _ (by exact ⟨(hb3.cell (p := ⟨g, off + k * 4, none⟩) hg).trans h0, (hb3.cell (p := ⟨g, off + k * 4 + 1, none⟩) hg).trans h1, (hb3.cell (p := ⟨g, off + k * 4 + 2, none⟩) hg).trans h2, (hb3.cell (p := ⟨g, off + k * 4 + 3, none⟩) hg).trans h3, hb3⟩) (fun hHeld => ?_)
        clear hK K
        try simp only [Act.put, List.setIfInBounds_toArray, List.set_cons_zero, List.set_cons_succ, List.getElem_toArray, List.getElem_cons_zero, List.getElem_cons_succ]
        refine wpAnyH_take (i := 14) (v := ?valF14Tc) rfl (by kernel_rfl) (by kernel_rfl) (by kernel_rfl) (fun _ _ _ h => h) (Or.inl ⟨by rfl, ?yieF14Tc⟩) (by assumption) ?resF14Tc
        case yieF14Tc =>
          intro w hSw
          try dsimp only at hSw
          try obtain ⟨s0, s1, s2, s3, s4⟩ := hSw
          go_simp
          try with_reducible rfl
        try simp only [Act.put, List.setIfInBounds_toArray, List.set_cons_zero, List.set_cons_succ, List.getElem_toArray, List.getElem_cons_zero, List.getElem_cons_succ]
        refine wpAnyH_take (i := 15) (v := ?valF15Tc) rfl (by kernel_rfl) (by kernel_rfl) (by kernel_rfl) (fun _ _ _ h => h) (Or.inl ⟨by rfl, ?yieF15Tc⟩) (by assumption) ?resF15Tc
        case yieF15Tc =>
          intro w hSw
          try dsimp only at hSw
          try obtain ⟨s0, s1, s2, s3, s4⟩ := hSw
          go_simp
          try with_reducible rfl
        try simp only [Act.put, List.setIfInBounds_toArray, List.set_cons_zero, List.set_cons_succ, List.getElem_toArray, List.getElem_cons_zero, List.getElem_cons_succ]
        refine wpAnyH_take (i := 16) (v := ?valF16Tc) rfl (by kernel_rfl) (by kernel_rfl) (by kernel_rfl) (fun _ _ _ h => h) (Or.inl ⟨by rfl, ?yieF16Tc⟩) (by assumption) ?resF16Tc
        case yieF16Tc =>
          intro w hSw
          try dsimp only at hSw
          try obtain ⟨s0, s1, s2, s3, s4⟩ := hSw
          go_simp
          try with_reducible rfl
        try simp only [Act.put, List.setIfInBounds_toArray, List.set_cons_zero, List.set_cons_succ, List.getElem_toArray, List.getElem_cons_zero, List.getElem_cons_succ]
        refine wpAnyH_take (i := 17) (v := ?valF17Tc) rfl (by kernel_rfl) (by kernel_rfl) (by kernel_rfl) (fun _ _ _ h => h) (Or.inl ⟨by rfl, ?yieF17Tc⟩) (by assumption) ?resF17Tc
        case yieF17Tc =>
          intro w hSw
          try dsimp only at hSw
          try obtain ⟨s0, s1, s2, s3, s4⟩ := hSw
          go_simp
          try with_reducible rfl
        try simp only [Act.put, List.setIfInBounds_toArray, List.set_cons_zero, List.set_cons_succ, List.getElem_toArray, List.getElem_cons_zero, List.getElem_cons_succ]
        refine wpAnyH_take (i := 18) (v := ?valF18Tc) rfl (by kernel_rfl) (by kernel_rfl) (by kernel_rfl) (fun _ _ _ h => h) (Or.inl ⟨by rfl, ?yieF18Tc⟩) (by assumption) ?resF18Tc
        case yieF18Tc =>
          intro w hSw
          try dsimp only at hSw
          try obtain ⟨s0, s1, s2, s3, s4⟩ := hSw
          go_simp
          try with_reducible rfl
        try simp only [Act.put, List.setIfInBounds_toArray, List.set_cons_zero, List.set_cons_succ, List.getElem_toArray, List.getElem_cons_zero, List.getElem_cons_succ]
        refine wpAnyH_take (i := 19) (v := ?valF19Tc) rfl (by kernel_rfl) (by kernel_rfl) (by kernel_rfl) (fun _ _ _ h => h) (Or.inl ⟨by rfl, ?yieF19Tc⟩) (by assumption) ?resF19Tc
        case yieF19Tc =>
          intro w hSw
          try dsimp only at hSw
          try obtain ⟨s0, s1, s2, s3, s4⟩ := hSw
          go_simp
          try with_reducible rfl
        try simp only [Act.put, List.setIfInBounds_toArray, List.set_cons_zero, List.set_cons_succ, List.getElem_toArray, List.getElem_cons_zero, List.getElem_cons_succ]
        refine wpAnyH_take (i := 20) (v := undef) rfl (by kernel_rfl) (by kernel_rfl) (by kernel_rfl) (fun _ _ _ h => h) (Or.inr ⟨by rfl, rfl⟩) (by assumption) ?_
        try simp only [Act.put, List.setIfInBounds_toArray, List.set_cons_zero, List.set_cons_succ, List.getElem_toArray, List.getElem_cons_zero, List.getElem_cons_succ]
        refine wpAnyH_take (i := 21) (v := undef) rfl (by kernel_rfl) (by kernel_rfl) (by kernel_rfl) (fun _ _ _ h => h) (Or.inr ⟨by rfl, rfl⟩) (by assumption) ?_
        try simp only [Act.put, List.setIfInBounds_toArray, List.set_cons_zero, List.set_cons_succ, List.getElem_toArray, List.getElem_cons_zero, List.getElem_cons_succ]
        refine wpAnyH_take (i := 22) (v := undef) rfl (by kernel_rfl) (by kernel_rfl) (by kernel_rfl) (fun _ _ _ h => h) (Or.inr ⟨by rfl, rfl⟩) (by assumption) ?_
        try simp only [Act.put, List.setIfInBounds_toArray, List.set_cons_zero, List.set_cons_succ, List.getElem_toArray, List.getElem_cons_zero, List.getElem_cons_succ]
        refine wpAnyH_take (i := 23) (v := undef) rfl (by kernel_rfl) (by kernel_rfl) (by kernel_rfl) (fun _ _ _ h => h) (Or.inr ⟨by rfl, rfl⟩) (by assumption) ?_
        try simp only [Act.put, List.setIfInBounds_toArray, List.set_cons_zero, List.set_cons_succ, List.getElem_toArray, List.getElem_cons_zero, List.getElem_cons_succ]
        refine wpAnyH_take (i := 24) (v := undef) rfl (by kernel_rfl) (by kernel_rfl) (by kernel_rfl) (fun _ _ _ h => h) (Or.inr ⟨by rfl, rfl⟩) (by assumption) ?_
        try simp only [Act.put, List.setIfInBounds_toArray, List.set_cons_zero, List.set_cons_succ, List.getElem_toArray, List.getElem_cons_zero, List.getElem_cons_succ]
        refine wpAnyH_take (i := 25) (v := undef) rfl (by kernel_rfl) (by kernel_rfl) (by kernel_rfl) (fun _ _ _ h => h) (Or.inr ⟨by rfl, rfl⟩) (by assumption) ?_
        try simp only [Act.put, List.setIfInBounds_toArray, List.set_cons_zero, List.set_cons_succ, List.getElem_toArray, List.getElem_cons_zero, List.getElem_cons_succ]
        refine wpAnyH_take (i := 26) (v := undef) rfl (by kernel_rfl) (by kernel_rfl) (by kernel_rfl) (fun _ _ _ h => h) (Or.inr ⟨by rfl, rfl⟩) (by assumption) ?_
        try simp only [Act.put, List.setIfInBounds_toArray, List.set_cons_zero, List.set_cons_succ, List.getElem_toArray, List.getElem_cons_zero, List.getElem_cons_succ]
        refine wpAnyH_take (i := 27) (v := undef) rfl (by kernel_rfl) (by kernel_rfl) (by kernel_rfl) (fun _ _ _ h => h) (Or.inr ⟨by rfl, rfl⟩) (by assumption) ?_
        try simp only [Act.put, List.setIfInBounds_toArray, List.set_cons_zero, List.set_cons_succ, List.getElem_toArray, List.getElem_cons_zero, List.getElem_cons_succ]
        refine wpAnyH_take (i := 28) (v := undef) rfl (by kernel_rfl) (by kernel_rfl) (by kernel_rfl) (fun _ _ _ h => h) (Or.inr ⟨by rfl, rfl⟩) (by assumption) ?_
        try simp only [Act.put, List.setIfInBounds_toArray, List.set_cons_zero, List.set_cons_succ, List.getElem_toArray, List.getElem_cons_zero, List.getElem_cons_succ]
        refine wpAnyH_take (i := 29) (v := undef) rfl (by kernel_rfl) (by kernel_rfl) (by kernel_rfl) (fun _ _ _ h => h) (Or.inr ⟨by rfl, rfl⟩) (by assumption) ?_
        try simp only [Act.put, List.setIfInBounds_toArray, List.set_cons_zero, List.set_cons_succ, List.getElem_toArray, List.getElem_cons_zero, List.getElem_cons_succ]
        refine wpAnyH_take (i := 30) (v := undef) rfl (by kernel_rfl) (by kernel_rfl) (by kernel_rfl) (fun _ _ _ h => h) (Or.inr ⟨by rfl, rfl⟩) (by assumption) ?_
        try simp only [Act.put, List.setIfInBounds_toArray, List.set_cons_zero, List.set_cons_succ, List.getElem_toArray, List.getElem_cons_zero, List.getElem_cons_succ]
        refine wpAnyH_take (i := 31) (v := undef) rfl (by kernel_rfl) (by kernel_rfl) (by kernel_rfl) (fun _ _ _ h => h) (Or.inr ⟨by rfl, rfl⟩) (by assumption) ?_
        try simp only [Act.put, List.setIfInBounds_toArray, List.set_cons_zero, List.set_cons_succ, List.getElem_toArray, List.getElem_cons_zero, List.getElem_cons_succ]
        refine wpAnyH_take (i := 32) (v := undef) rfl (by kernel_rfl) (by kernel_rfl) (by kernel_rfl) (fun _ _ _ h => h) (Or.inr ⟨by rfl, rfl⟩) (by assumption) ?_
        try simp only [Act.put, List.setIfInBounds_toArray, List.set_cons_zero, List.set_cons_succ, List.getElem_toArray, List.getElem_cons_zero, List.getElem_cons_succ]
        refine wpAnyH_take (i := 33) (v := ?valF33Tc) rfl (by kernel_rfl) (by kernel_rfl) (by kernel_rfl) (fun _ _ _ h => h) (Or.inl ⟨by rfl, ?yieF33Tc⟩) (by assumption) ?resF33Tc
        case yieF33Tc =>
          intro w hSw
          try dsimp only at hSw
          try obtain ⟨s0, s1, s2, s3, s4⟩ := hSw
          go_simp
          try with_reducible rfl
        try simp only [Act.put, List.setIfInBounds_toArray, List.set_cons_zero, List.set_cons_succ, List.getElem_toArray, List.getElem_cons_zero, List.getElem_cons_succ]
        refine wpAnyH_take (i := 34) (v := ?valF34Tc) rfl (by kernel_rfl) (by kernel_rfl) (by kernel_rfl) (fun _ _ _ h => h) (Or.inl ⟨by rfl, ?yieF34Tc⟩) (by assumption) ?resF34Tc
        case yieF34Tc =>
          intro w hSw
          try dsimp only at hSw
          try obtain ⟨s0, s1, s2, s3, s4⟩ := hSw
          go_simp
          try with_reducible rfl
        try simp only [Act.put, List.setIfInBounds_toArray, List.set_cons_zero, List.set_cons_succ, List.getElem_toArray, List.getElem_cons_zero, List.getElem_cons_succ]
        refine wpAnyH_done (by kernel_rfl) ?_ _
        refine NoPanic.normal ?_
        go_wp2
        go_roundw
        case rel => exact ⟨k + 1, by omega, by go_num, hbw.trans (hb3.mono hbw.size), HM⟩
        case measure => simp [intOf]; omega
      obtain ⟨m, hm⟩ : ∃ m, k = m + 1 := ⟨k - 1, by omega⟩
      have hmlt : m < xs.length := by omega
      obtain ⟨g', off', e', _, m0, m1, m2, m3⟩ := (hA.below hbw).seg hmlt
      injection e' with e'
      injection e' with e1 e2
      subst e1 e2
      rw [getG_get hmlt] at m0 m1 m2 m3
      obtain ⟨u, hu⟩ : ∃ u, getG xs m = u := ⟨_, rfl⟩
      rw [hu] at m0 m1 m2 m3
      have hst2 : stepG xs k = (placeG t1 t2 && (placeG t3 t4 && lessG u.1 u.2.1 t1 t2)) := by
        rw [hst, show k - 1 = m by omega, hu, show (k == 0) = false by rw [beq_eq_false_iff_ne]; exact hk0, Bool.false_or]
      obtain ⟨u1, u2, u3, u4⟩ := u
      simp only at m0 m1 m2 m3 hst2
      have HC1 := Lib.hid (fun W => by have := l8Pos_any t1 t2 W; rw [hp] at this; exact this)
      have HC2 := Lib.hid (fun W => by have := l8Pos_any t3 t4 W; rw [hq] at this; exact this)
      have hg1 : decide (0 < (k : Int)) = true := by rw [decide_eq_true_iff]; omega
      have hgN : decide (0 < k) = true := by rw [decide_eq_true_iff]; omega
      have hwr : IntKind.i64.wrap ((k : Int) - 1) = (m : Int) := by rw [show (k : Int) - 1 = (m : Int) by omega]; exact IntWalk.i64_in _ (by omega)
      have hmx : (m : Int) < (xs.length : Int) := by omega
      cases hs : lessG u1 u2 t1 t2
      · have HC3 := Lib.hid (fun W => by have := specPosLess_any u1 u2 t1 t2 W; rw [hs] at this; exact this)
        have HE := Lib.hid (segsOk_no hlt (by rw [hst2, hp, hq, hs]; rfl))
        clear hst hst2 ht hu hp hq hA hk0 hs hm
        go_wp2
        refine wp_region_noPanic ?_
        refine wp_region_held_drew (S := (fun w' => w'.cell? ⟨g, off + k * 4, none⟩ = some (.int .i64 t1) ∧ w'.cell? ⟨g, off + k * 4 + 1, none⟩ = some (.int .i64 t2) ∧ w'.cell? ⟨g, off + k * 4 + 2, none⟩ = some (.int .i64 t3) ∧ w'.cell? ⟨g, off + k * 4 + 3, none⟩ = some (.int .i64 t4) ∧ w'.cell? ⟨g, off + m * 4, none⟩ = some (.int .i64 u1) ∧ w'.cell? ⟨g, off + m * 4 + 1, none⟩ = some (.int .i64 u2) ∧ w'.cell? ⟨g, off + m * 4 + 2, none⟩ = some (.int .i64 u3) ∧ w'.cell? ⟨g, off + m * 4 + 3, none⟩ = some (.int .i64 u4) ∧ Below wr.heap.size wr w')) (by kernel_rfl) (by exact ⟨h0, h1, h2, h3, m0, m1, m2, m3, (Below.refl _ wr).drew⟩) (fun hHeld => ?_)
        refine wpAnyH_take (i := 0) (v := ?valF0Td) rfl (by kernel_rfl) (by kernel_rfl) (by kernel_rfl) (fun _ _ _ h => h) (Or.inl ⟨by rfl, ?yieF0Td⟩) (by assumption) ?resF0Td
        case yieF0Td =>
          intro w hSw
          try dsimp only at hSw
          try obtain ⟨s0, s1, s2, s3, s4, s5, s6, s7, s8⟩ := hSw
          go_simp
          try with_reducible rfl
        try simp only [Act.put, List.setIfInBounds_toArray, List.set_cons_zero, List.set_cons_succ, List.getElem_toArray, List.getElem_cons_zero, List.getElem_cons_succ]
        refine wpAnyH_take (i := 1) (v := ?valF1Td) rfl (by kernel_rfl) (by kernel_rfl) (by kernel_rfl) (fun _ _ _ h => h) (Or.inl ⟨by rfl, ?yieF1Td⟩) (by assumption) ?resF1Td
        case yieF1Td =>
          intro w hSw
          try dsimp only at hSw
          try obtain ⟨s0, s1, s2, s3, s4, s5, s6, s7, s8⟩ := hSw
          go_simp
          try with_reducible rfl
        try simp only [Act.put, List.setIfInBounds_toArray, List.set_cons_zero, List.set_cons_succ, List.getElem_toArray, List.getElem_cons_zero, List.getElem_cons_succ]
        refine wpAnyH_take (i := 2) (v := ?valF2Td) rfl (by kernel_rfl) (by kernel_rfl) (by kernel_rfl) (fun _ _ _ h => h) (Or.inl ⟨by rfl, ?yieF2Td⟩) (by assumption) ?resF2Td
        case yieF2Td =>
          intro w hSw
          try dsimp only at hSw
          try obtain ⟨s0, s1, s2, s3, s4, s5, s6, s7, s8⟩ := hSw
          go_simp
          try with_reducible rfl
        try simp only [Act.put, List.setIfInBounds_toArray, List.set_cons_zero, List.set_cons_succ, List.getElem_toArray, List.getElem_cons_zero, List.getElem_cons_succ]
        refine wpAnyH_take (i := 3) (v := ?valF3Td) rfl (by kernel_rfl) (by kernel_rfl) (by kernel_rfl) (fun _ _ _ h => h) (Or.inl ⟨by rfl, ?yieF3Td⟩) (by assumption) ?resF3Td
        case yieF3Td =>
          intro w hSw
          try dsimp only at hSw
          try obtain ⟨s0, s1, s2, s3, s4, s5, s6, s7, s8⟩ := hSw
          go_simp
          try with_reducible rfl
        try simp only [Act.put, List.setIfInBounds_toArray, List.set_cons_zero, List.set_cons_succ, List.getElem_toArray, List.getElem_cons_zero, List.getElem_cons_succ]
        refine wpAnyH_take (i := 4) (v := ?valF4Td) rfl (by kernel_rfl) (by kernel_rfl) (by kernel_rfl) (fun _ _ _ h => h) (Or.inl ⟨by rfl, ?yieF4Td⟩) (by assumption) ?resF4Td
        case yieF4Td =>
          intro w hSw
          try dsimp only at hSw
          try obtain ⟨s0, s1, s2, s3, s4, s5, s6, s7, s8⟩ := hSw
          go_simp
          try with_reducible rfl
        try simp only [Act.put, List.setIfInBounds_toArray, List.set_cons_zero, List.set_cons_succ, List.getElem_toArray, List.getElem_cons_zero, List.getElem_cons_succ]
        refine wpAnyH_ready (rs := [5]) (by kernel_rfl) (by simp) ?_
        refine AllReadyH.cons rfl (fun K hK => ?_) AllReadyH.nil
        go_simp
        go_at_call 41
        refine (HC1.out _).mono ?_
        rintro e w2 ⟨rfl, hb2'⟩
        have hb2 : Below wr.heap.size wr w2 := (Below.refl _ wr).drew.trans hb2'
        go_wp2_with fail
        refine hK.out _ _ (by exact ⟨(hb2.cell (p := ⟨g, off + k * 4, none⟩) hg).trans h0, (hb2.cell (p := ⟨g, off + k * 4 + 1, none⟩) hg).trans h1, (hb2.cell (p := ⟨g, off + k * 4 + 2, none⟩) hg).trans h2, (hb2.cell (p := ⟨g, off + k * 4 + 3, none⟩) hg).trans h3, (hb2.cell (p := ⟨g, off + m * 4, none⟩) hg).trans m0, (hb2.cell (p := ⟨g, off + m * 4 + 1, none⟩) hg).trans m1, (hb2.cell (p := ⟨g, off + m * 4 + 2, none⟩) hg).trans m2, (hb2.cell (p := ⟨g, off + m * 4 + 3, none⟩) hg).trans m3, hb2⟩) (fun hHeld => ?_)
        clear hK K
        try simp only [Act.put, List.setIfInBounds_toArray, List.set_cons_zero, List.set_cons_succ, List.getElem_toArray, List.getElem_cons_zero, List.getElem_cons_succ]
        refine wpAnyH_take (i := 6) (v := ?valF6Td) rfl (by kernel_rfl) (by kernel_rfl) (by kernel_rfl) (fun _ _ _ h => h) (Or.inl ⟨by rfl, ?yieF6Td⟩) (by assumption) ?resF6Td
        case yieF6Td =>
          intro w hSw
          try dsimp only at hSw
          try obtain ⟨s0, s1, s2, s3, s4, s5, s6, s7, s8⟩ := hSw
          go_simp
          try with_reducible rfl
        try simp only [Act.put, List.setIfInBounds_toArray, List.set_cons_zero, List.set_cons_succ, List.getElem_toArray, List.getElem_cons_zero, List.getElem_cons_succ]
        refine wpAnyH_take (i := 7) (v := ?valF7Td) rfl (by kernel_rfl) (by kernel_rfl) (by kernel_rfl) (fun _ _ _ h => h) (Or.inl ⟨by rfl, ?yieF7Td⟩) (by assumption) ?resF7Td
        case yieF7Td =>
          intro w hSw
          try dsimp only at hSw
          try obtain ⟨s0, s1, s2, s3, s4, s5, s6, s7, s8⟩ := hSw
          go_simp
          try with_reducible rfl
        try simp only [Act.put, List.setIfInBounds_toArray, List.set_cons_zero, List.set_cons_succ, List.getElem_toArray, List.getElem_cons_zero, List.getElem_cons_succ]
        refine wpAnyH_take (i := 8) (v := ?valF8Td) rfl (by kernel_rfl) (by kernel_rfl) (by kernel_rfl) (fun _ _ _ h => h) (Or.inl ⟨by rfl, ?yieF8Td⟩) (by assumption) ?resF8Td
        case yieF8Td =>
          intro w hSw
          try dsimp only at hSw
          try obtain ⟨s0, s1, s2, s3, s4, s5, s6, s7, s8⟩ := hSw
          go_simp
          try with_reducible rfl
        try simp only [Act.put, List.setIfInBounds_toArray, List.set_cons_zero, List.set_cons_succ, List.getElem_toArray, List.getElem_cons_zero, List.getElem_cons_succ]
        refine wpAnyH_take (i := 9) (v := ?valF9Td) rfl (by kernel_rfl) (by kernel_rfl) (by kernel_rfl) (fun _ _ _ h => h) (Or.inl ⟨by rfl, ?yieF9Td⟩) (by assumption) ?resF9Td
        case yieF9Td =>
          intro w hSw
          try dsimp only at hSw
          try obtain ⟨s0, s1, s2, s3, s4, s5, s6, s7, s8⟩ := hSw
          go_simp
          try with_reducible rfl
        try simp only [Act.put, List.setIfInBounds_toArray, List.set_cons_zero, List.set_cons_succ, List.getElem_toArray, List.getElem_cons_zero, List.getElem_cons_succ]
        refine wpAnyH_take (i := 10) (v := ?valF10Td) rfl (by kernel_rfl) (by kernel_rfl) (by kernel_rfl) (fun _ _ _ h => h) (Or.inl ⟨by rfl, ?yieF10Td⟩) (by assumption) ?resF10Td
        case yieF10Td =>
          intro w hSw
          try dsimp only at hSw
          try obtain ⟨s0, s1, s2, s3, s4, s5, s6, s7, s8⟩ := hSw
          go_simp
          try with_reducible rfl
        try simp only [Act.put, List.setIfInBounds_toArray, List.set_cons_zero, List.set_cons_succ, List.getElem_toArray, List.getElem_cons_zero, List.getElem_cons_succ]
        refine wpAnyH_take (i := 11) (v := ?valF11Td) rfl (by kernel_rfl) (by kernel_rfl) (by kernel_rfl) (fun _ _ _ h => h) (Or.inl ⟨by rfl, ?yieF11Td⟩) (by assumption) ?resF11Td
        case yieF11Td =>
          intro w hSw
          try dsimp only at hSw
          try obtain ⟨s0, s1, s2, s3, s4, s5, s6, s7, s8⟩ := hSw
          go_simp
          try with_reducible rfl
        try simp only [Act.put, List.setIfInBounds_toArray, List.set_cons_zero, List.set_cons_succ, List.getElem_toArray, List.getElem_cons_zero, List.getElem_cons_succ]
        refine wpAnyH_take (i := 12) (v := ?valF12Td) rfl (by kernel_rfl) (by kernel_rfl) (by kernel_rfl) (fun _ _ _ h => h) (Or.inl ⟨by rfl, ?yieF12Td⟩) (by assumption) ?resF12Td
        case yieF12Td =>
          intro w hSw
          try dsimp only at hSw
          try obtain ⟨s0, s1, s2, s3, s4, s5, s6, s7, s8⟩ := hSw
          go_simp
          try with_reducible rfl
        try simp only [Act.put, List.setIfInBounds_toArray, List.set_cons_zero, List.set_cons_succ, List.getElem_toArray, List.getElem_cons_zero, List.getElem_cons_succ]
        refine wpAnyH_ready (rs := [13]) (by kernel_rfl) (by simp) ?_
        refine AllReadyH.cons rfl (fun K hK => ?_) AllReadyH.nil
        go_simp
        go_at_call 41
        refine (HC2.out _).mono ?_
        rintro e w3 ⟨rfl, hb3'⟩
        have hb3 : Below wr.heap.size wr w3 := hb2.trans (hb3'.mono hb2.size)
        go_wp2_with fail
        refine hK.out _ _ (by exact ⟨(hb3.cell (p := ⟨g, off + k * 4, none⟩) hg).trans h0, (hb3.cell (p := ⟨g, off + k * 4 + 1, none⟩) hg).trans h1, (hb3.cell (p := ⟨g, off + k * 4 + 2, none⟩) hg).trans h2, (hb3.cell (p := ⟨g, off + k * 4 + 3, none⟩) hg).trans h3, (hb3.cell (p := ⟨g, off + m * 4, none⟩) hg).trans m0, (hb3.cell (p := ⟨g, off + m * 4 + 1, none⟩) hg).trans m1, (hb3.cell (p := ⟨g, off + m * 4 + 2, none⟩) hg).trans m2, (hb3.cell (p := ⟨g, off + m * 4 + 3, none⟩) hg).trans m3, hb3⟩) (fun hHeld => ?_)
        clear hK K
        try simp only [Act.put, List.setIfInBounds_toArray, List.set_cons_zero, List.set_cons_succ, List.getElem_toArray, List.getElem_cons_zero, List.getElem_cons_succ]
        refine wpAnyH_take (i := 14) (v := ?valF14Td) rfl (by kernel_rfl) (by kernel_rfl) (by kernel_rfl) (fun _ _ _ h => h) (Or.inl ⟨by rfl, ?yieF14Td⟩) (by assumption) ?resF14Td
        case yieF14Td =>
          intro w hSw
          try dsimp only at hSw
          try obtain ⟨s0, s1, s2, s3, s4, s5, s6, s7, s8⟩ := hSw
          go_simp
          try with_reducible rfl
        try simp only [Act.put, List.setIfInBounds_toArray, List.set_cons_zero, List.set_cons_succ, List.getElem_toArray, List.getElem_cons_zero, List.getElem_cons_succ]
        refine wpAnyH_take (i := 15) (v := ?valF15Td) rfl (by kernel_rfl) (by kernel_rfl) (by kernel_rfl) (fun _ _ _ h => h) (Or.inl ⟨by rfl, ?yieF15Td⟩) (by assumption) ?resF15Td
        case yieF15Td =>
          intro w hSw
          try dsimp only at hSw
          try obtain ⟨s0, s1, s2, s3, s4, s5, s6, s7, s8⟩ := hSw
          go_simp
          try with_reducible rfl
        try simp only [Act.put, List.setIfInBounds_toArray, List.set_cons_zero, List.set_cons_succ, List.getElem_toArray, List.getElem_cons_zero, List.getElem_cons_succ]
        refine wpAnyH_take (i := 16) (v := ?valF16Td) rfl (by kernel_rfl) (by kernel_rfl) (by kernel_rfl) (fun _ _ _ h => h) (Or.inl ⟨by rfl, ?yieF16Td⟩) (by assumption) ?resF16Td
        case yieF16Td =>
          intro w hSw
          try dsimp only at hSw
          try obtain ⟨s0, s1, s2, s3, s4, s5, s6, s7, s8⟩ := hSw
          go_simp
          try with_reducible rfl
        try simp only [Act.put, List.setIfInBounds_toArray, List.set_cons_zero, List.set_cons_succ, List.getElem_toArray, List.getElem_cons_zero, List.getElem_cons_succ]
        refine wpAnyH_take (i := 17) (v := ?valF17Td) rfl (by kernel_rfl) (by kernel_rfl) (by kernel_rfl) (fun _ _ _ h => h) (Or.inl ⟨by rfl, ?yieF17Td⟩) (by assumption) ?resF17Td
        case yieF17Td =>
          intro w hSw
          try dsimp only at hSw
          try obtain ⟨s0, s1, s2, s3, s4, s5, s6, s7, s8⟩ := hSw
          go_simp
          try with_reducible rfl
        try simp only [Act.put, List.setIfInBounds_toArray, List.set_cons_zero, List.set_cons_succ, List.getElem_toArray, List.getElem_cons_zero, List.getElem_cons_succ]
        refine wpAnyH_take (i := 18) (v := ?valF18Td) rfl (by kernel_rfl) (by kernel_rfl) (by kernel_rfl) (fun _ _ _ h => h) (Or.inl ⟨by rfl, ?yieF18Td⟩) (by assumption) ?resF18Td
        case yieF18Td =>
          intro w hSw
          try dsimp only at hSw
          try obtain ⟨s0, s1, s2, s3, s4, s5, s6, s7, s8⟩ := hSw
          go_simp
          try with_reducible rfl
        try simp only [Act.put, List.setIfInBounds_toArray, List.set_cons_zero, List.set_cons_succ, List.getElem_toArray, List.getElem_cons_zero, List.getElem_cons_succ]
        refine wpAnyH_take (i := 19) (v := ?valF19Td) rfl (by kernel_rfl) (by kernel_rfl) (by kernel_rfl) (fun _ _ _ h => h) (Or.inl ⟨by rfl, ?yieF19Td⟩) (by assumption) ?resF19Td
        case yieF19Td =>
          intro w hSw
          try dsimp only at hSw
          try obtain ⟨s0, s1, s2, s3, s4, s5, s6, s7, s8⟩ := hSw
          go_simp
          try with_reducible rfl
        try simp only [Act.put, List.setIfInBounds_toArray, List.set_cons_zero, List.set_cons_succ, List.getElem_toArray, List.getElem_cons_zero, List.getElem_cons_succ]
        refine wpAnyH_take (i := 20) (v := ?valF20Td) rfl (by kernel_rfl) (by kernel_rfl) (by kernel_rfl) (fun _ _ _ h => h) (Or.inl ⟨by rfl, ?yieF20Td⟩) (by assumption) ?resF20Td
        case yieF20Td =>
          intro w hSw
          try dsimp only at hSw
          try obtain ⟨s0, s1, s2, s3, s4, s5, s6, s7, s8⟩ := hSw
          go_simp
          try with_reducible rfl
        try simp only [Act.put, List.setIfInBounds_toArray, List.set_cons_zero, List.set_cons_succ, List.getElem_toArray, List.getElem_cons_zero, List.getElem_cons_succ]
        refine wpAnyH_take (i := 21) (v := ?valF21Td) rfl (by kernel_rfl) (by kernel_rfl) (by kernel_rfl) (fun _ _ _ h => h) (Or.inl ⟨by rfl, ?yieF21Td⟩) (by assumption) ?resF21Td
        case yieF21Td =>
          intro w hSw
          try dsimp only at hSw
          try obtain ⟨s0, s1, s2, s3, s4, s5, s6, s7, s8⟩ := hSw
          go_simp
          try with_reducible rfl
        try simp only [Act.put, List.setIfInBounds_toArray, List.set_cons_zero, List.set_cons_succ, List.getElem_toArray, List.getElem_cons_zero, List.getElem_cons_succ]
        refine wpAnyH_take (i := 22) (v := ?valF22Td) rfl (by kernel_rfl) (by kernel_rfl) (by kernel_rfl) (fun _ _ _ h => h) (Or.inl ⟨by rfl, ?yieF22Td⟩) (by assumption) ?resF22Td
        case yieF22Td =>
          intro w hSw
          try dsimp only at hSw
          try obtain ⟨s0, s1, s2, s3, s4, s5, s6, s7, s8⟩ := hSw
          go_simp
          try with_reducible rfl
        try simp only [Act.put, List.setIfInBounds_toArray, List.set_cons_zero, List.set_cons_succ, List.getElem_toArray, List.getElem_cons_zero, List.getElem_cons_succ]
        refine wpAnyH_take (i := 23) (v := ?valF23Td) rfl (by kernel_rfl) (by kernel_rfl) (by kernel_rfl) (fun _ _ _ h => h) (Or.inl ⟨by rfl, ?yieF23Td⟩) (by assumption) ?resF23Td
        case yieF23Td =>
          intro w hSw
          try dsimp only at hSw
          try obtain ⟨s0, s1, s2, s3, s4, s5, s6, s7, s8⟩ := hSw
          go_simp
          try with_reducible rfl
        try simp only [Act.put, List.setIfInBounds_toArray, List.set_cons_zero, List.set_cons_succ, List.getElem_toArray, List.getElem_cons_zero, List.getElem_cons_succ]
        refine wpAnyH_take (i := 24) (v := ?valF24Td) rfl (by kernel_rfl) (by kernel_rfl) (by kernel_rfl) (fun _ _ _ h => h) (Or.inl ⟨by rfl, ?yieF24Td⟩) (by assumption) ?resF24Td
        case yieF24Td =>
          intro w hSw
          try dsimp only at hSw
          try obtain ⟨s0, s1, s2, s3, s4, s5, s6, s7, s8⟩ := hSw
          go_simp
          try with_reducible rfl
        try simp only [Act.put, List.setIfInBounds_toArray, List.set_cons_zero, List.set_cons_succ, List.getElem_toArray, List.getElem_cons_zero, List.getElem_cons_succ]
        refine wpAnyH_take (i := 25) (v := ?valF25Td) rfl (by kernel_rfl) (by kernel_rfl) (by kernel_rfl) (fun _ _ _ h => h) (Or.inl ⟨by rfl, ?yieF25Td⟩) (by assumption) ?resF25Td
        case yieF25Td =>
          intro w hSw
          try dsimp only at hSw
          try obtain ⟨s0, s1, s2, s3, s4, s5, s6, s7, s8⟩ := hSw
          go_simp
          try with_reducible rfl
        try simp only [Act.put, List.setIfInBounds_toArray, List.set_cons_zero, List.set_cons_succ, List.getElem_toArray, List.getElem_cons_zero, List.getElem_cons_succ]
        refine wpAnyH_take (i := 26) (v := ?valF26Td) rfl (by kernel_rfl) (by kernel_rfl) (by kernel_rfl) (fun _ _ _ h => h) (Or.inl ⟨by rfl, ?yieF26Td⟩) (by assumption) ?resF26Td
        case yieF26Td =>
          intro w hSw
          try dsimp only at hSw
          try obtain ⟨s0, s1, s2, s3, s4, s5, s6, s7, s8⟩ := hSw
          go_simp
          try with_reducible rfl
        try simp only [Act.put, List.setIfInBounds_toArray, List.set_cons_zero, List.set_cons_succ, List.getElem_toArray, List.getElem_cons_zero, List.getElem_cons_succ]
        refine wpAnyH_take (i := 27) (v := ?valF27Td) rfl (by kernel_rfl) (by kernel_rfl) (by kernel_rfl) (fun _ _ _ h => h) (Or.inl ⟨by rfl, ?yieF27Td⟩) (by assumption) ?resF27Td
        case yieF27Td =>
          intro w hSw
          try dsimp only at hSw
          try obtain ⟨s0, s1, s2, s3, s4, s5, s6, s7, s8⟩ := hSw
          go_simp
          try with_reducible rfl
        try simp only [Act.put, List.setIfInBounds_toArray, List.set_cons_zero, List.set_cons_succ, List.getElem_toArray, List.getElem_cons_zero, List.getElem_cons_succ]
        refine wpAnyH_take (i := 28) (v := ?valF28Td) rfl (by kernel_rfl) (by kernel_rfl) (by kernel_rfl) (fun _ _ _ h => h) (Or.inl ⟨by rfl, ?yieF28Td⟩) (by assumption) ?resF28Td
        case yieF28Td =>
          intro w hSw
          try dsimp only at hSw
          try obtain ⟨s0, s1, s2, s3, s4, s5, s6, s7, s8⟩ := hSw
          go_simp
          try with_reducible rfl
        try simp only [Act.put, List.setIfInBounds_toArray, List.set_cons_zero, List.set_cons_succ, List.getElem_toArray, List.getElem_cons_zero, List.getElem_cons_succ]
        refine wpAnyH_take (i := 29) (v := ?valF29Td) rfl (by kernel_rfl) (by kernel_rfl) (by kernel_rfl) (fun _ _ _ h => h) (Or.inl ⟨by rfl, ?yieF29Td⟩) (by assumption) ?resF29Td
        case yieF29Td =>
          intro w hSw
          try dsimp only at hSw
          try obtain ⟨s0, s1, s2, s3, s4, s5, s6, s7, s8⟩ := hSw
          go_simp
          try with_reducible rfl
        try simp only [Act.put, List.setIfInBounds_toArray, List.set_cons_zero, List.set_cons_succ, List.getElem_toArray, List.getElem_cons_zero, List.getElem_cons_succ]
        refine wpAnyH_take (i := 30) (v := ?valF30Td) rfl (by kernel_rfl) (by kernel_rfl) (by kernel_rfl) (fun _ _ _ h => h) (Or.inl ⟨by rfl, ?yieF30Td⟩) (by assumption) ?resF30Td
        case yieF30Td =>
          intro w hSw
          try dsimp only at hSw
          try obtain ⟨s0, s1, s2, s3, s4, s5, s6, s7, s8⟩ := hSw
          go_simp
          try with_reducible rfl
        try simp only [Act.put, List.setIfInBounds_toArray, List.set_cons_zero, List.set_cons_succ, List.getElem_toArray, List.getElem_cons_zero, List.getElem_cons_succ]
        refine wpAnyH_ready (rs := [31]) (by kernel_rfl) (by simp) ?_
        refine AllReadyH.cons rfl (fun K hK => ?_) AllReadyH.nil
        go_simp
        go_at_call 42
        refine (HC3.out _).mono ?_
        rintro e w4 ⟨rfl, hb4'⟩
        have hb4 : Below wr.heap.size wr w4 := hb3.trans (hb4'.mono hb3.size)
        go_wp2_with fail
        refine hK.out _ _ (by exact ⟨(hb4.cell (p := ⟨g, off + k * 4, none⟩) hg).trans h0, (hb4.cell (p := ⟨g, off + k * 4 + 1, none⟩) hg).trans h1, (hb4.cell (p := ⟨g, off + k * 4 + 2, none⟩) hg).trans h2, (hb4.cell (p := ⟨g, off + k * 4 + 3, none⟩) hg).trans h3, (hb4.cell (p := ⟨g, off + m * 4, none⟩) hg).trans m0, (hb4.cell (p := ⟨g, off + m * 4 + 1, none⟩) hg).trans m1, (hb4.cell (p := ⟨g, off + m * 4 + 2, none⟩) hg).trans m2, (hb4.cell (p := ⟨g, off + m * 4 + 3, none⟩) hg).trans m3, hb4⟩) (fun hHeld => ?_)
        clear hK K
        try simp only [Act.put, List.setIfInBounds_toArray, List.set_cons_zero, List.set_cons_succ, List.getElem_toArray, List.getElem_cons_zero, List.getElem_cons_succ]
        refine wpAnyH_take (i := 32) (v := ?valF32Td) rfl (by kernel_rfl) (by kernel_rfl) (by kernel_rfl) (fun _ _ _ h => h) (Or.inl ⟨by rfl, ?yieF32Td⟩) (by assumption) ?resF32Td
        case yieF32Td =>
          intro w hSw
          try dsimp only at hSw
          try obtain ⟨s0, s1, s2, s3, s4, s5, s6, s7, s8⟩ := hSw
          go_simp
          try with_reducible rfl
        try simp only [Act.put, List.setIfInBounds_toArray, List.set_cons_zero, List.set_cons_succ, List.getElem_toArray, List.getElem_cons_zero, List.getElem_cons_succ]
        refine wpAnyH_take (i := 33) (v := ?valF33Td) rfl (by kernel_rfl) (by kernel_rfl) (by kernel_rfl) (fun _ _ _ h => h) (Or.inl ⟨by rfl, ?yieF33Td⟩) (by assumption) ?resF33Td
        case yieF33Td =>
          intro w hSw
          try dsimp only at hSw
          try obtain ⟨s0, s1, s2, s3, s4, s5, s6, s7, s8⟩ := hSw
          go_simp
          try with_reducible rfl
        try simp only [Act.put, List.setIfInBounds_toArray, List.set_cons_zero, List.set_cons_succ, List.getElem_toArray, List.getElem_cons_zero, List.getElem_cons_succ]
        refine wpAnyH_take (i := 34) (v := ?valF34Td) rfl (by kernel_rfl) (by kernel_rfl) (by kernel_rfl) (fun _ _ _ h => h) (Or.inl ⟨by rfl, ?yieF34Td⟩) (by assumption) ?resF34Td
        case yieF34Td =>
          intro w hSw
          try dsimp only at hSw
          try obtain ⟨s0, s1, s2, s3, s4, s5, s6, s7, s8⟩ := hSw
          go_simp
          try with_reducible rfl
        try simp only [Act.put, List.setIfInBounds_toArray, List.set_cons_zero, List.set_cons_succ, List.getElem_toArray, List.getElem_cons_zero, List.getElem_cons_succ]
        refine wpAnyH_done (by kernel_rfl) ?_ _
        refine NoPanic.normal ?_
        go_wp2
        go_ret
        exact ⟨ret_bool HE.out.symm, hbw.trans (hb4.mono hbw.size)⟩
      · have HC3 := Lib.hid (fun W => by have := specPosLess_any u1 u2 t1 t2 W; rw [hs] at this; exact this)
        have HM := Lib.hid (more_step HP.out (by rw [hst2, hp, hq, hs]; rfl))
        clear hst hst2 ht hu hp hq hA hk0 hs hm
        go_wp2
        refine wp_region_noPanic ?_
        refine wp_region_held_drew (S := (fun w' => w'.cell? ⟨g, off + k * 4, none⟩ = some (.int .i64 t1) ∧ w'.cell? ⟨g, off + k * 4 + 1, none⟩ = some (.int .i64 t2) ∧ w'.cell? ⟨g, off + k * 4 + 2, none⟩ = some (.int .i64 t3) ∧ w'.cell? ⟨g, off + k * 4 + 3, none⟩ = some (.int .i64 t4) ∧ w'.cell? ⟨g, off + m * 4, none⟩ = some (.int .i64 u1) ∧ w'.cell? ⟨g, off + m * 4 + 1, none⟩ = some (.int .i64 u2) ∧ w'.cell? ⟨g, off + m * 4 + 2, none⟩ = some (.int .i64 u3) ∧ w'.cell? ⟨g, off + m * 4 + 3, none⟩ = some (.int .i64 u4) ∧ Below wr.heap.size wr w')) (by kernel_rfl) (by exact ⟨h0, h1, h2, h3, m0, m1, m2, m3, (Below.refl _ wr).drew⟩) (fun hHeld => ?_)
        refine wpAnyH_take (i := 0) (v := ?valF0Te) rfl (by kernel_rfl) (by kernel_rfl) (by kernel_rfl) (fun _ _ _ h => h) (Or.inl ⟨by rfl, ?yieF0Te⟩) (by assumption) ?resF0Te
        case yieF0Te =>
          intro w hSw
          try dsimp only at hSw
          try obtain ⟨s0, s1, s2, s3, s4, s5, s6, s7, s8⟩ := hSw
          go_simp
          try with_reducible rfl
        try simp only [Act.put, List.setIfInBounds_toArray, List.set_cons_zero, List.set_cons_succ, List.getElem_toArray, List.getElem_cons_zero, List.getElem_cons_succ]
        refine wpAnyH_take (i := 1) (v := ?valF1Te) rfl (by kernel_rfl) (by kernel_rfl) (by kernel_rfl) (fun _ _ _ h => h) (Or.inl ⟨by rfl, ?yieF1Te⟩) (by assumption) ?resF1Te
        case yieF1Te =>
          intro w hSw
          try dsimp only at hSw
          try obtain ⟨s0, s1, s2, s3, s4, s5, s6, s7, s8⟩ := hSw
          go_simp
          try with_reducible rfl
        try simp only [Act.put, List.setIfInBounds_toArray, List.set_cons_zero, List.set_cons_succ, List.getElem_toArray, List.getElem_cons_zero, List.getElem_cons_succ]
        refine wpAnyH_take (i := 2) (v := ?valF2Te) rfl (by kernel_rfl) (by kernel_rfl) (by kernel_rfl) (fun _ _ _ h => h) (Or.inl ⟨by rfl, ?yieF2Te⟩) (by assumption) ?resF2Te
        case yieF2Te =>
          intro w hSw
          try dsimp only at hSw
          try obtain ⟨s0, s1, s2, s3, s4, s5, s6, s7, s8⟩ := hSw
          go_simp
          try with_reducible rfl
        try simp only [Act.put, List.setIfInBounds_toArray, List.set_cons_zero, List.set_cons_succ, List.getElem_toArray, List.getElem_cons_zero, List.getElem_cons_succ]
        refine wpAnyH_take (i := 3) (v := ?valF3Te) rfl (by kernel_rfl) (by kernel_rfl) (by kernel_rfl) (fun _ _ _ h => h) (Or.inl ⟨by rfl, ?yieF3Te⟩) (by assumption) ?resF3Te
        case yieF3Te =>
          intro w hSw
          try dsimp only at hSw
          try obtain ⟨s0, s1, s2, s3, s4, s5, s6, s7, s8⟩ := hSw
          go_simp
          try with_reducible rfl
        try simp only [Act.put, List.setIfInBounds_toArray, List.set_cons_zero, List.set_cons_succ, List.getElem_toArray, List.getElem_cons_zero, List.getElem_cons_succ]
        refine wpAnyH_take (i := 4) (v := ?valF4Te) rfl (by kernel_rfl) (by kernel_rfl) (by kernel_rfl) (fun _ _ _ h => h) (Or.inl ⟨by rfl, ?yieF4Te⟩) (by assumption) ?resF4Te
        case yieF4Te =>
          intro w hSw
          try dsimp only at hSw
          try obtain ⟨s0, s1, s2, s3, s4, s5, s6, s7, s8⟩ := hSw
          go_simp
          try with_reducible rfl
        try simp only [Act.put, List.setIfInBounds_toArray, List.set_cons_zero, List.set_cons_succ, List.getElem_toArray, List.getElem_cons_zero, List.getElem_cons_succ]
        refine wpAnyH_ready (rs := [5]) (by kernel_rfl) (by simp) ?_
        refine AllReadyH.cons rfl (fun K hK => ?_) AllReadyH.nil
        go_simp
        go_at_call 41
        refine (HC1.out _).mono ?_
        rintro e w2 ⟨rfl, hb2'⟩
        have hb2 : Below wr.heap.size wr w2 := (Below.refl _ wr).drew.trans hb2'
        go_wp2_with fail
        refine hK.out _ _ (by exact ⟨(hb2.cell (p := ⟨g, off + k * 4, none⟩) hg).trans h0, (hb2.cell (p := ⟨g, off + k * 4 + 1, none⟩) hg).trans h1, (hb2.cell (p := ⟨g, off + k * 4 + 2, none⟩) hg).trans h2, (hb2.cell (p := ⟨g, off + k * 4 + 3, none⟩) hg).trans h3, (hb2.cell (p := ⟨g, off + m * 4, none⟩) hg).trans m0, (hb2.cell (p := ⟨g, off + m * 4 + 1, none⟩) hg).trans m1, (hb2.cell (p := ⟨g, off + m * 4 + 2, none⟩) hg).trans m2, (hb2.cell (p := ⟨g, off + m * 4 + 3, none⟩) hg).trans m3, hb2⟩) (fun hHeld => ?_)
        clear hK K
        try simp only [Act.put, List.setIfInBounds_toArray, List.set_cons_zero, List.set_cons_succ, List.getElem_toArray, List.getElem_cons_zero, List.getElem_cons_succ]
        refine wpAnyH_take (i := 6) (v := ?valF6Te) rfl (by kernel_rfl) (by kernel_rfl) (by kernel_rfl) (fun _ _ _ h => h) (Or.inl ⟨by rfl, ?yieF6Te⟩) (by assumption) ?resF6Te
        case yieF6Te =>
          intro w hSw
          try dsimp only at hSw
          try obtain ⟨s0, s1, s2, s3, s4, s5, s6, s7, s8⟩ := hSw
          go_simp
          try with_reducible rfl
        try simp only [Act.put, List.setIfInBounds_toArray, List.set_cons_zero, List.set_cons_succ, List.getElem_toArray, List.getElem_cons_zero, List.getElem_cons_succ]
        refine wpAnyH_take (i := 7) (v := ?valF7Te) rfl (by kernel_rfl) (by kernel_rfl) (by kernel_rfl) (fun _ _ _ h => h) (Or.inl ⟨by rfl, ?yieF7Te⟩) (by assumption) ?resF7Te
        case yieF7Te =>
          intro w hSw
          try dsimp only at hSw
          try obtain ⟨s0, s1, s2, s3, s4, s5, s6, s7, s8⟩ := hSw
          go_simp
          try with_reducible rfl
        try simp only [Act.put, List.setIfInBounds_toArray, List.set_cons_zero, List.set_cons_succ, List.getElem_toArray, List.getElem_cons_zero, List.getElem_cons_succ]
        refine wpAnyH_take (i := 8) (v := ?valF8Te) rfl (by kernel_rfl) (by kernel_rfl) (by kernel_rfl) (fun _ _ _ h => h) (Or.inl ⟨by rfl, ?yieF8Te⟩) (by assumption) ?resF8Te
        case yieF8Te =>
          intro w hSw
          try dsimp only at hSw
          try obtain ⟨s0, s1, s2, s3, s4, s5, s6, s7, s8⟩ := hSw
          go_simp
          try with_reducible rfl
        try simp only [Act.put, List.setIfInBounds_toArray, List.set_cons_zero, List.set_cons_succ, List.getElem_toArray, List.getElem_cons_zero, List.getElem_cons_succ]
        refine wpAnyH_take (i := 9) (v := ?valF9Te) rfl (by kernel_rfl) (by kernel_rfl) (by kernel_rfl) (fun _ _ _ h => h) (Or.inl ⟨by rfl, ?yieF9Te⟩) (by assumption) ?resF9Te
        case yieF9Te =>
          intro w hSw
          try dsimp only at hSw
          try obtain ⟨s0, s1, s2, s3, s4, s5, s6, s7, s8⟩ := hSw
          go_simp
          try with_reducible rfl
        try simp only [Act.put, List.setIfInBounds_toArray, List.set_cons_zero, List.set_cons_succ, List.getElem_toArray, List.getElem_cons_zero, List.getElem_cons_succ]
        refine wpAnyH_take (i := 10) (v := ?valF10Te) rfl (by kernel_rfl) (by kernel_rfl) (by kernel_rfl) (fun _ _ _ h => h) (Or.inl ⟨by rfl, ?yieF10Te⟩) (by assumption) ?resF10Te
        case yieF10Te =>
          intro w hSw
          try dsimp only at hSw
          try obtain ⟨s0, s1, s2, s3, s4, s5, s6, s7, s8⟩ := hSw
          go_simp
          try with_reducible rfl
        try simp only [Act.put, List.setIfInBounds_toArray, List.set_cons_zero, List.set_cons_succ, List.getElem_toArray, List.getElem_cons_zero, List.getElem_cons_succ]
        refine wpAnyH_take (i := 11) (v := ?valF11Te) rfl (by kernel_rfl) (by kernel_rfl) (by kernel_rfl) (fun _ _ _ h => h) (Or.inl ⟨by rfl, ?yieF11Te⟩) (by assumption) ?resF11Te
        case yieF11Te =>
          intro w hSw
          try dsimp only at hSw
          try obtain ⟨s0, s1, s2, s3, s4, s5, s6, s7, s8⟩ := hSw
          go_simp
          try with_reducible rfl
        try simp only [Act.put, List.setIfInBounds_toArray, List.set_cons_zero, List.set_cons_succ, List.getElem_toArray, List.getElem_cons_zero, List.getElem_cons_succ]
        refine wpAnyH_take (i := 12) (v := ?valF12Te) rfl (by kernel_rfl) (by kernel_rfl) (by kernel_rfl) (fun _ _ _ h => h) (Or.inl ⟨by rfl, ?yieF12Te⟩) (by assumption) ?resF12Te
        case yieF12Te =>
          intro w hSw
          try dsimp only at hSw
          try obtain ⟨s0, s1, s2, s3, s4, s5, s6, s7, s8⟩ := hSw
          go_simp
          try with_reducible rfl
        try simp only [Act.put, List.setIfInBounds_toArray, List.set_cons_zero, List.set_cons_succ, List.getElem_toArray, List.getElem_cons_zero, List.getElem_cons_succ]
        refine wpAnyH_ready (rs := [13]) (by kernel_rfl) (by simp) ?_
        refine AllReadyH.cons rfl (fun K hK => ?_) AllReadyH.nil
        go_simp
        go_at_call 41
        refine (HC2.out _).mono ?_
        rintro e w3 ⟨rfl, hb3'⟩
        have hb3 : Below wr.heap.size wr w3 := hb2.trans (hb3'.mono hb2.size)
        go_wp2_with fail
        refine hK.out _ _ (by exact ⟨(hb3.cell (p := ⟨g, off + k * 4, none⟩) hg).trans h0, (hb3.cell (p := ⟨g, off + k * 4 + 1, none⟩) hg).trans h1, (hb3.cell (p := ⟨g, off + k * 4 + 2, none⟩) hg).trans h2, (hb3.cell (p := ⟨g, off + k * 4 + 3, none⟩) hg).trans h3, (hb3.cell (p := ⟨g, off + m * 4, none⟩) hg).trans m0, (hb3.cell (p := ⟨g, off + m * 4 + 1, none⟩) hg).trans m1, (hb3.cell (p := ⟨g, off + m * 4 + 2, none⟩) hg).trans m2, (hb3.cell (p := ⟨g, off + m * 4 + 3, none⟩) hg).trans m3, hb3⟩) (fun hHeld => ?_)
        clear hK K
        try simp only [Act.put, List.setIfInBounds_toArray, List.set_cons_zero, List.set_cons_succ, List.getElem_toArray, List.getElem_cons_zero, List.getElem_cons_succ]
        refine wpAnyH_take (i := 14) (v := ?valF14Te) rfl (by kernel_rfl) (by kernel_rfl) (by kernel_rfl) (fun _ _ _ h => h) (Or.inl ⟨by rfl, ?yieF14Te⟩) (by assumption) ?resF14Te
        case yieF14Te =>
          intro w hSw
          try dsimp only at hSw
          try obtain ⟨s0, s1, s2, s3, s4, s5, s6, s7, s8⟩ := hSw
          go_simp
          try with_reducible rfl
        try simp only [Act.put, List.setIfInBounds_toArray, List.set_cons_zero, List.set_cons_succ, List.getElem_toArray, List.getElem_cons_zero, List.getElem_cons_succ]
        refine wpAnyH_take (i := 15) (v := ?valF15Te) rfl (by kernel_rfl) (by kernel_rfl) (by kernel_rfl) (fun _ _ _ h => h) (Or.inl ⟨by rfl, ?yieF15Te⟩) (by assumption) ?resF15Te
        case yieF15Te =>
          intro w hSw
          try dsimp only at hSw
          try obtain ⟨s0, s1, s2, s3, s4, s5, s6, s7, s8⟩ := hSw
          go_simp
          try with_reducible rfl
        try simp only [Act.put, List.setIfInBounds_toArray, List.set_cons_zero, List.set_cons_succ, List.getElem_toArray, List.getElem_cons_zero, List.getElem_cons_succ]
        refine wpAnyH_take (i := 16) (v := ?valF16Te) rfl (by kernel_rfl) (by kernel_rfl) (by kernel_rfl) (fun _ _ _ h => h) (Or.inl ⟨by rfl, ?yieF16Te⟩) (by assumption) ?resF16Te
        case yieF16Te =>
          intro w hSw
          try dsimp only at hSw
          try obtain ⟨s0, s1, s2, s3, s4, s5, s6, s7, s8⟩ := hSw
          go_simp
          try with_reducible rfl
        try simp only [Act.put, List.setIfInBounds_toArray, List.set_cons_zero, List.set_cons_succ, List.getElem_toArray, List.getElem_cons_zero, List.getElem_cons_succ]
        refine wpAnyH_take (i := 17) (v := ?valF17Te) rfl (by kernel_rfl) (by kernel_rfl) (by kernel_rfl) (fun _ _ _ h => h) (Or.inl ⟨by rfl, ?yieF17Te⟩) (by assumption) ?resF17Te
        case yieF17Te =>
          intro w hSw
          try dsimp only at hSw
          try obtain ⟨s0, s1, s2, s3, s4, s5, s6, s7, s8⟩ := hSw
          go_simp
          try with_reducible rfl
        try simp only [Act.put, List.setIfInBounds_toArray, List.set_cons_zero, List.set_cons_succ, List.getElem_toArray, List.getElem_cons_zero, List.getElem_cons_succ]
        refine wpAnyH_take (i := 18) (v := ?valF18Te) rfl (by kernel_rfl) (by kernel_rfl) (by kernel_rfl) (fun _ _ _ h => h) (Or.inl ⟨by rfl, ?yieF18Te⟩) (by assumption) ?resF18Te
        case yieF18Te =>
          intro w hSw
          try dsimp only at hSw
          try obtain ⟨s0, s1, s2, s3, s4, s5, s6, s7, s8⟩ := hSw
          go_simp
          try with_reducible rfl
        try simp only [Act.put, List.setIfInBounds_toArray, List.set_cons_zero, List.set_cons_succ, List.getElem_toArray, List.getElem_cons_zero, List.getElem_cons_succ]
        refine wpAnyH_take (i := 19) (v := ?valF19Te) rfl (by kernel_rfl) (by kernel_rfl) (by kernel_rfl) (fun _ _ _ h => h) (Or.inl ⟨by rfl, ?yieF19Te⟩) (by assumption) ?resF19Te
        case yieF19Te =>
          intro w hSw
          try dsimp only at hSw
          try obtain ⟨s0, s1, s2, s3, s4, s5, s6, s7, s8⟩ := hSw
          go_simp
          try with_reducible rfl
        try simp only [Act.put, List.setIfInBounds_toArray, List.set_cons_zero, List.set_cons_succ, List.getElem_toArray, List.getElem_cons_zero, List.getElem_cons_succ]
        refine wpAnyH_take (i := 20) (v := ?valF20Te) rfl (by kernel_rfl) (by kernel_rfl) (by kernel_rfl) (fun _ _ _ h => h) (Or.inl ⟨by rfl, ?yieF20Te⟩) (by assumption) ?resF20Te
        case yieF20Te =>
          intro w hSw
          try dsimp only at hSw
          try obtain ⟨s0, s1, s2, s3, s4, s5, s6, s7, s8⟩ := hSw
          go_simp
          try with_reducible rfl
        try simp only [Act.put, List.setIfInBounds_toArray, List.set_cons_zero, List.set_cons_succ, List.getElem_toArray, List.getElem_cons_zero, List.getElem_cons_succ]
        refine wpAnyH_take (i := 21) (v := ?valF21Te) rfl (by kernel_rfl) (by kernel_rfl) (by kernel_rfl) (fun _ _ _ h => h) (Or.inl ⟨by rfl, ?yieF21Te⟩) (by assumption) ?resF21Te
        case yieF21Te =>
          intro w hSw
          try dsimp only at hSw
          try obtain ⟨s0, s1, s2, s3, s4, s5, s6, s7, s8⟩ := hSw
          go_simp
          try with_reducible rfl
        try simp only [Act.put, List.setIfInBounds_toArray, List.set_cons_zero, List.set_cons_succ, List.getElem_toArray, List.getElem_cons_zero, List.getElem_cons_succ]
        refine wpAnyH_take (i := 22) (v := ?valF22Te) rfl (by kernel_rfl) (by kernel_rfl) (by kernel_rfl) (fun _ _ _ h => h) (Or.inl ⟨by rfl, ?yieF22Te⟩) (by assumption) ?resF22Te
        case yieF22Te =>
          intro w hSw
          try dsimp only at hSw
          try obtain ⟨s0, s1, s2, s3, s4, s5, s6, s7, s8⟩ := hSw
          go_simp
          try with_reducible rfl
        try simp only [Act.put, List.setIfInBounds_toArray, List.set_cons_zero, List.set_cons_succ, List.getElem_toArray, List.getElem_cons_zero, List.getElem_cons_succ]
        refine wpAnyH_take (i := 23) (v := ?valF23Te) rfl (by kernel_rfl) (by kernel_rfl) (by kernel_rfl) (fun _ _ _ h => h) (Or.inl ⟨by rfl, ?yieF23Te⟩) (by assumption) ?resF23Te
        case yieF23Te =>
          intro w hSw
          try dsimp only at hSw
          try obtain ⟨s0, s1, s2, s3, s4, s5, s6, s7, s8⟩ := hSw
          go_simp
          try with_reducible rfl
        try simp only [Act.put, List.setIfInBounds_toArray, List.set_cons_zero, List.set_cons_succ, List.getElem_toArray, List.getElem_cons_zero, List.getElem_cons_succ]
        refine wpAnyH_take (i := 24) (v := ?valF24Te) rfl (by kernel_rfl) (by kernel_rfl) (by kernel_rfl) (fun _ _ _ h => h) (Or.inl ⟨by rfl, ?yieF24Te⟩) (by assumption) ?resF24Te
        case yieF24Te =>
          intro w hSw
          try dsimp only at hSw
          try obtain ⟨s0, s1, s2, s3, s4, s5, s6, s7, s8⟩ := hSw
          go_simp
          try with_reducible rfl
        try simp only [Act.put, List.setIfInBounds_toArray, List.set_cons_zero, List.set_cons_succ, List.getElem_toArray, List.getElem_cons_zero, List.getElem_cons_succ]
        refine wpAnyH_take (i := 25) (v := ?valF25Te) rfl (by kernel_rfl) (by kernel_rfl) (by kernel_rfl) (fun _ _ _ h => h) (Or.inl ⟨by rfl, ?yieF25Te⟩) (by assumption) ?resF25Te
        case yieF25Te =>
          intro w hSw
          try dsimp only at hSw
          try obtain ⟨s0, s1, s2, s3, s4, s5, s6, s7, s8⟩ := hSw
          go_simp
          try with_reducible rfl
        try simp only [Act.put, List.setIfInBounds_toArray, List.set_cons_zero, List.set_cons_succ, List.getElem_toArray, List.getElem_cons_zero, List.getElem_cons_succ]
        refine wpAnyH_take (i := 26) (v := ?valF26Te) rfl (by kernel_rfl) (by kernel_rfl) (by kernel_rfl) (fun _ _ _ h => h) (Or.inl ⟨by rfl, ?yieF26Te⟩) (by assumption) ?resF26Te
        case yieF26Te =>
          intro w hSw
          try dsimp only at hSw
          try obtain ⟨s0, s1, s2, s3, s4, s5, s6, s7, s8⟩ := hSw
          go_simp
          try with_reducible rfl
        try simp only [Act.put, List.setIfInBounds_toArray, List.set_cons_zero, List.set_cons_succ, List.getElem_toArray, List.getElem_cons_zero, List.getElem_cons_succ]
        refine wpAnyH_take (i := 27) (v := ?valF27Te) rfl (by kernel_rfl) (by kernel_rfl) (by kernel_rfl) (fun _ _ _ h => h) (Or.inl ⟨by rfl, ?yieF27Te⟩) (by assumption) ?resF27Te
        case yieF27Te =>
          intro w hSw
          try dsimp only at hSw
          try obtain ⟨s0, s1, s2, s3, s4, s5, s6, s7, s8⟩ := hSw
          go_simp
          try with_reducible rfl
        try simp only [Act.put, List.setIfInBounds_toArray, List.set_cons_zero, List.set_cons_succ, List.getElem_toArray, List.getElem_cons_zero, List.getElem_cons_succ]
        refine wpAnyH_take (i := 28) (v := ?valF28Te) rfl (by kernel_rfl) (by kernel_rfl) (by kernel_rfl) (fun _ _ _ h => h) (Or.inl ⟨by rfl, ?yieF28Te⟩) (by assumption) ?resF28Te
        case yieF28Te =>
          intro w hSw
          try dsimp only at hSw
          try obtain ⟨s0, s1, s2, s3, s4, s5, s6, s7, s8⟩ := hSw
          go_simp
          try with_reducible rfl
        try simp only [Act.put, List.setIfInBounds_toArray, List.set_cons_zero, List.set_cons_succ, List.getElem_toArray, List.getElem_cons_zero, List.getElem_cons_succ]
        refine wpAnyH_take (i := 29) (v := ?valF29Te) rfl (by kernel_rfl) (by kernel_rfl) (by kernel_rfl) (fun _ _ _ h => h) (Or.inl ⟨by rfl, ?yieF29Te⟩) (by assumption) ?resF29Te
        case yieF29Te =>
          intro w hSw
          try dsimp only at hSw
          try obtain ⟨s0, s1, s2, s3, s4, s5, s6, s7, s8⟩ := hSw
          go_simp
          try with_reducible rfl
        try simp only [Act.put, List.setIfInBounds_toArray, List.set_cons_zero, List.set_cons_succ, List.getElem_toArray, List.getElem_cons_zero, List.getElem_cons_succ]
        refine wpAnyH_take (i := 30) (v := ?valF30Te) rfl (by kernel_rfl) (by kernel_rfl) (by kernel_rfl) (fun _ _ _ h => h) (Or.inl ⟨by rfl, ?yieF30Te⟩) (by assumption) ?resF30Te
        case yieF30Te =>
          intro w hSw
          try dsimp only at hSw
          try obtain ⟨s0, s1, s2, s3, s4, s5, s6, s7, s8⟩ := hSw
          go_simp
          try with_reducible rfl
        try simp only [Act.put, List.setIfInBounds_toArray, List.set_cons_zero, List.set_cons_succ, List.getElem_toArray, List.getElem_cons_zero, List.getElem_cons_succ]
        refine wpAnyH_ready (rs := [31]) (by kernel_rfl) (by simp) ?_
        refine AllReadyH.cons rfl (fun K hK => ?_) AllReadyH.nil
        go_simp
        go_at_call 42
        refine (HC3.out _).mono ?_
        rintro e w4 ⟨rfl, hb4'⟩
        have hb4 : Below wr.heap.size wr w4 := hb3.trans (hb4'.mono hb3.size)
        go_wp2_with fail
        refine hK.out _ _ (by exact ⟨(hb4.cell (p := ⟨g, off + k * 4, none⟩) hg).trans h0, (hb4.cell (p := ⟨g, off + k * 4 + 1, none⟩) hg).trans h1, (hb4.cell (p := ⟨g, off + k * 4 + 2, none⟩) hg).trans h2, (hb4.cell (p := ⟨g, off + k * 4 + 3, none⟩) hg).trans h3, (hb4.cell (p := ⟨g, off + m * 4, none⟩) hg).trans m0, (hb4.cell (p := ⟨g, off + m * 4 + 1, none⟩) hg).trans m1, (hb4.cell (p := ⟨g, off + m * 4 + 2, none⟩) hg).trans m2, (hb4.cell (p := ⟨g, off + m * 4 + 3, none⟩) hg).trans m3, hb4⟩) (fun hHeld => ?_)
        clear hK K
        try simp only [Act.put, List.setIfInBounds_toArray, List.set_cons_zero, List.set_cons_succ, List.getElem_toArray, List.getElem_cons_zero, List.getElem_cons_succ]
        refine wpAnyH_take (i := 32) (v := ?valF32Te) rfl (by kernel_rfl) (by kernel_rfl) (by kernel_rfl) (fun _ _ _ h => h) (Or.inl ⟨by rfl, ?yieF32Te⟩) (by assumption) ?resF32Te
        case yieF32Te =>
          intro w hSw
          try dsimp only at hSw
          try obtain ⟨s0, s1, s2, s3, s4, s5, s6, s7, s8⟩ := hSw
          go_simp
          try with_reducible rfl
        try simp only [Act.put, List.setIfInBounds_toArray, List.set_cons_zero, List.set_cons_succ, List.getElem_toArray, List.getElem_cons_zero, List.getElem_cons_succ]
        refine wpAnyH_take (i := 33) (v := ?valF33Te) rfl (by kernel_rfl) (by kernel_rfl) (by kernel_rfl) (fun _ _ _ h => h) (Or.inl ⟨by rfl, ?yieF33Te⟩) (by assumption) ?resF33Te
        case yieF33Te =>
          intro w hSw
          try dsimp only at hSw
          try obtain ⟨s0, s1, s2, s3, s4, s5, s6, s7, s8⟩ := hSw
          go_simp
          try with_reducible rfl
        try simp only [Act.put, List.setIfInBounds_toArray, List.set_cons_zero, List.set_cons_succ, List.getElem_toArray, List.getElem_cons_zero, List.getElem_cons_succ]
        refine wpAnyH_take (i := 34) (v := ?valF34Te) rfl (by kernel_rfl) (by kernel_rfl) (by kernel_rfl) (fun _ _ _ h => h) (Or.inl ⟨by rfl, ?yieF34Te⟩) (by assumption) ?resF34Te
        case yieF34Te =>
          intro w hSw
          try dsimp only at hSw
          try obtain ⟨s0, s1, s2, s3, s4, s5, s6, s7, s8⟩ := hSw
          go_simp
          try with_reducible rfl
        try simp only [Act.put, List.setIfInBounds_toArray, List.set_cons_zero, List.set_cons_succ, List.getElem_toArray, List.getElem_cons_zero, List.getElem_cons_succ]
        refine wpAnyH_done (by kernel_rfl) ?_ _
        refine NoPanic.normal ?_
        go_wp2
        go_roundw
        case rel => exact ⟨k + 1, by omega, by go_num, hbw.trans (hb4.mono hbw.size), HM⟩
        case measure => simp [intOf]; omega
    · have HE := Lib.hid (segsOk_all hlt HP.out)
      clear hA
      go_wp2
      go_ret
      exact ⟨ret_bool (by rw [HE.out]; exact decide_eq_decide.2 (by omega)), hbw⟩
set_option maxRecDepth 100000 in
set_option linter.unusedSimpArgs false in
set_option maxHeartbeats 8000000 in
theorem segsOkI_any (A : Option Addr) (c : Nat) (xs : List Sg) (w : World) (hl : xs.length ≤ 2 ^ 40) (hA : SlIs w A (rowG xs)) :
    Calls Try.prog 28 #[.slice A xs.length c] w fun e w' => e = .returned (.bool (segsOk xs)) ∧ Below w.heap.size w w' := by
  by_cases hbig : xs.length ≤ 1280
  case neg =>
    have HE := Lib.hid (show segsOk xs = false by rw [segsOk, decide_eq_false hbig, Bool.false_and])
    have hb1 : (1280 : Int) < (xs.length : Int) := by omega
    clear hbig hA
    go_enter Try.func28, Try.ntmps28
    go_wp2
    go_ret
    exact ⟨ret_bool HE.out.symm, Below.refl _ _⟩
  have HB := Lib.hid hbig
  have hb1 : ¬ (1280 : Int) < (xs.length : Int) := by omega
  clear hbig
  go_enter Try.func28, Try.ntmps28
  go_wp2
  go_loopw [10] (fun i wr => ∃ k : Nat, k ≤ xs.length ∧ i = .int .i64 k ∧ Below w.heap.size w wr ∧ Hid (∀ j, j < k → stepG xs j = true))
    (fun i _ => xs.length - (intOf i).toNat)
  case atStart => exact ⟨0, Nat.zero_le _, rfl, Below.refl _ _, fun j h => absurd h (Nat.not_lt_zero _)⟩
  case round =>
    obtain ⟨k, hk, rfl, hbw, HP⟩ := hrel
    by_cases hlt : k < xs.length
    · have hx : (k : Int) < (xs.length : Int) := by omega
      obtain ⟨g, off, rfl, hg, h0, h1, h2, h3⟩ := (hA.below hbw).seg hlt
      rw [getG_get hlt] at h0 h1 h2 h3
      obtain ⟨t, ht⟩ : ∃ t, getG xs k = t := ⟨_, rfl⟩
      have hst := stepG_all ht
      rw [ht] at h0 h1 h2 h3
      obtain ⟨t1, t2, t3, t4⟩ := t
      simp only at h0 h1 h2 h3 hst
      have hbN : Below wr.heap.size wr (wr.alloc (.cells #[.int .i64 t1, .int .i64 t2, .int .i64 t3, .int .i64 t4] 46)) := (Below.refl _ wr).alloc (Nat.le_refl _) _
      obtain ⟨W0, hW0⟩ : ∃ W0, W0 = wr.alloc (.cells #[.int .i64 t1, .int .i64 t2, .int .i64 t3, .int .i64 t4] 46) := ⟨_, rfl⟩
      have hB0 : BlkG W0 wr.heap.size #[.int .i64 t1, .int .i64 t2, .int .i64 t3, .int .i64 t4] 46 := by rw [hW0]; exact blkG_new wr _ _
      have hb0 : Below wr.heap.size wr W0 := by rw [hW0]; exact hbN
      have hs0 : wr.heap.size < W0.heap.size := hB0.lt
      have x0 := hB0.cell 0
      have x1 := hB0.cell 1
      have x2 := hB0.cell 2
      have x3 := hB0.cell 3
      simp only [List.getElem?_toArray, List.getElem?_cons_zero, List.getElem?_cons_succ] at x0 x1 x2 x3
      clear hB0 hbN
      cases hp : placeG t1 t2
      · have HC1 := Lib.hid (fun W => by have := wordPlaceOk_any t1 t2 W; rw [hp] at this; exact this)
        have HE := Lib.hid (segsOk_no hlt (by rw [hst, hp]; rfl))
        clear hst ht hp hA
        go_wp2_with fail
        rw [← hW0]
        clear hW0
        refine (HC1.out _).mono ?_
        rintro e w2 ⟨rfl, hb2⟩
        go_wp2
        go_ret
        exact ⟨ret_bool HE.out.symm, hbw.trans ((hb0.trans (hb2.mono hb0.size)).mono hbw.size)⟩
      have HC1 := Lib.hid (fun W => by have := wordPlaceOk_any t1 t2 W; rw [hp] at this; exact this)
      cases hq : placeG t3 t4
      · have HC2 := Lib.hid (fun W => by have := wordPlaceOk_any t3 t4 W; rw [hq] at this; exact this)
        have HE := Lib.hid (segsOk_no hlt (by rw [hst, hp, hq]; rfl))
        clear hst ht hp hq hA
        go_wp2_with fail
        rw [← hW0]
        clear hW0
        refine (HC1.out _).mono ?_
        rintro e w2 ⟨rfl, hb2⟩
        have y2 := (hb2.cell (p := ⟨wr.heap.size, 2, none⟩) hs0).trans x2
        have y3 := (hb2.cell (p := ⟨wr.heap.size, 3, none⟩) hs0).trans x3
        clear x0 x1 x2 x3
        go_wp2_with fail
        refine (HC2.out _).mono ?_
        rintro e w3 ⟨rfl, hb3'⟩
        have hb3 := hb2.trans (hb3'.mono hb2.size)
        go_wp2_with fail
        go_ret
        exact ⟨ret_bool HE.out.symm, hbw.trans ((hb0.trans (hb3.mono hb0.size)).mono hbw.size)⟩
      have HC2 := Lib.hid (fun W => by have := wordPlaceOk_any t3 t4 W; rw [hq] at this; exact this)
      by_cases hk0 : k = 0
      · have HM := Lib.hid (more_step HP.out (by rw [hst, hp, hq, hk0]; rfl))
        have hg1 : decide (0 < (k : Int)) = false := by rw [decide_eq_false_iff_not]; omega
        have hgN : decide (0 < k) = false := by rw [decide_eq_false_iff_not]; omega
        have HL := Lib.hid hlt
        clear hst ht hp hq hA hk0
        go_wp2_with fail
        rw [← hW0]
        clear hW0
        refine (HC1.out _).mono ?_
        rintro e w2 ⟨rfl, hb2⟩
        have y2 := (hb2.cell (p := ⟨wr.heap.size, 2, none⟩) hs0).trans x2
        have y3 := (hb2.cell (p := ⟨wr.heap.size, 3, none⟩) hs0).trans x3
        clear x0 x1 x2 x3
        go_wp2_with fail
        refine (HC2.out _).mono ?_
        rintro e w3 ⟨rfl, hb3'⟩
        have hb3'' := hb2.trans (hb3'.mono hb2.size)
        have hb3 := hb0.trans (hb3''.mono hb0.size)
        clear y2 y3
        go_wp2_with fail
        refine wp_region_noPanic ?_
        refine wp_region_held_drew (S := (fun w' => True)) (by kernel_rfl) (by exact trivial) (fun hHeld => ?_)
        refine wpAnyH_take (i := 0) (v := ?valF0Tx) rfl (by kernel_rfl) (by kernel_rfl) (by kernel_rfl) (fun _ _ _ h => h) (Or.inl ⟨by rfl, ?yieF0Tx⟩) (by assumption) ?resF0Tx
        case yieF0Tx =>
          intro w hSw
          try dsimp only at hSw
          try obtain ⟨s0⟩ := hSw
          go_simp
          try with_reducible rfl
        try simp only [Act.put, List.setIfInBounds_toArray, List.set_cons_zero, List.set_cons_succ, List.getElem_toArray, List.getElem_cons_zero, List.getElem_cons_succ]
        refine wpAnyH_take (i := 1) (v := ?valF1Tx) rfl (by kernel_rfl) (by kernel_rfl) (by kernel_rfl) (fun _ _ _ h => h) (Or.inl ⟨by rfl, ?yieF1Tx⟩) (by assumption) ?resF1Tx
        case yieF1Tx =>
          intro w hSw
          try dsimp only at hSw
          try obtain ⟨s0⟩ := hSw
          go_simp
          try with_reducible rfl
        try simp only [Act.put, List.setIfInBounds_toArray, List.set_cons_zero, List.set_cons_succ, List.getElem_toArray, List.getElem_cons_zero, List.getElem_cons_succ]
        refine wpAnyH_take (i := 2) (v := ?valF2Tx) rfl (by kernel_rfl) (by kernel_rfl) (by kernel_rfl) (fun _ _ _ h => h) (Or.inl ⟨by rfl, ?yieF2Tx⟩) (by assumption) ?resF2Tx
        case yieF2Tx =>
          intro w hSw
          try dsimp only at hSw
          try obtain ⟨s0⟩ := hSw
          go_simp
          try with_reducible rfl
        try simp only [Act.put, List.setIfInBounds_toArray, List.set_cons_zero, List.set_cons_succ, List.getElem_toArray, List.getElem_cons_zero, List.getElem_cons_succ]
        refine wpAnyH_take (i := 3) (v := undef) rfl (by kernel_rfl) (by kernel_rfl) (by kernel_rfl) (fun _ _ _ h => h) (Or.inr ⟨by rfl, rfl⟩) (by assumption) ?_
        try simp only [Act.put, List.setIfInBounds_toArray, List.set_cons_zero, List.set_cons_succ, List.getElem_toArray, List.getElem_cons_zero, List.getElem_cons_succ]
        refine wpAnyH_take (i := 4) (v := undef) rfl (by kernel_rfl) (by kernel_rfl) (by kernel_rfl) (fun _ _ _ h => h) (Or.inr ⟨by rfl, rfl⟩) (by assumption) ?_
        try simp only [Act.put, List.setIfInBounds_toArray, List.set_cons_zero, List.set_cons_succ, List.getElem_toArray, List.getElem_cons_zero, List.getElem_cons_succ]
        refine wpAnyH_take (i := 5) (v := undef) rfl (by kernel_rfl) (by kernel_rfl) (by kernel_rfl) (fun _ _ _ h => h) (Or.inr ⟨by rfl, rfl⟩) (by assumption) ?_
        try simp only [Act.put, List.setIfInBounds_toArray, List.set_cons_zero, List.set_cons_succ, List.getElem_toArray, List.getElem_cons_zero, List.getElem_cons_succ]
        refine wpAnyH_take (i := 6) (v := undef) rfl (by kernel_rfl) (by kernel_rfl) (by kernel_rfl) (fun _ _ _ h => h) (Or.inr ⟨by rfl, rfl⟩) (by assumption) ?_
        try simp only [Act.put, List.setIfInBounds_toArray, List.set_cons_zero, List.set_cons_succ, List.getElem_toArray, List.getElem_cons_zero, List.getElem_cons_succ]
        refine wpAnyH_take (i := 7) (v := undef) rfl (by kernel_rfl) (by kernel_rfl) (by kernel_rfl) (fun _ _ _ h => h) (Or.inr ⟨by rfl, rfl⟩) (by assumption) ?_
        try simp only [Act.put, List.setIfInBounds_toArray, List.set_cons_zero, List.set_cons_succ, List.getElem_toArray, List.getElem_cons_zero, List.getElem_cons_succ]
        refine wpAnyH_take (i := 8) (v := undef) rfl (by kernel_rfl) (by kernel_rfl) (by kernel_rfl) (fun _ _ _ h => h) (Or.inr ⟨by rfl, rfl⟩) (by assumption) ?_
        try simp only [Act.put, List.setIfInBounds_toArray, List.set_cons_zero, List.set_cons_succ, List.getElem_toArray, List.getElem_cons_zero, List.getElem_cons_succ]
        refine wpAnyH_take (i := 9) (v := undef) rfl (by kernel_rfl) (by kernel_rfl) (by kernel_rfl) (fun _ _ _ h => h) (Or.inr ⟨by rfl, rfl⟩) (by assumption) ?_
        try simp only [Act.put, List.setIfInBounds_toArray, List.set_cons_zero, List.set_cons_succ, List.getElem_toArray, List.getElem_cons_zero, List.getElem_cons_succ]
        refine wpAnyH_take (i := 10) (v := undef) rfl (by kernel_rfl) (by kernel_rfl) (by kernel_rfl) (fun _ _ _ h => h) (Or.inr ⟨by rfl, rfl⟩) (by assumption) ?_
        try simp only [Act.put, List.setIfInBounds_toArray, List.set_cons_zero, List.set_cons_succ, List.getElem_toArray, List.getElem_cons_zero, List.getElem_cons_succ]
        refine wpAnyH_take (i := 11) (v := undef) rfl (by kernel_rfl) (by kernel_rfl) (by kernel_rfl) (fun _ _ _ h => h) (Or.inr ⟨by rfl, rfl⟩) (by assumption) ?_
        try simp only [Act.put, List.setIfInBounds_toArray, List.set_cons_zero, List.set_cons_succ, List.getElem_toArray, List.getElem_cons_zero, List.getElem_cons_succ]
        refine wpAnyH_take (i := 12) (v := undef) rfl (by kernel_rfl) (by kernel_rfl) (by kernel_rfl) (fun _ _ _ h => h) (Or.inr ⟨by rfl, rfl⟩) (by assumption) ?_
        try simp only [Act.put, List.setIfInBounds_toArray, List.set_cons_zero, List.set_cons_succ, List.getElem_toArray, List.getElem_cons_zero, List.getElem_cons_succ]
        refine wpAnyH_take (i := 13) (v := ?valF13Tx) rfl (by kernel_rfl) (by kernel_rfl) (by kernel_rfl) (fun _ _ _ h => h) (Or.inl ⟨by rfl, ?yieF13Tx⟩) (by assumption) ?resF13Tx
        case yieF13Tx =>
          intro w hSw
          try dsimp only at hSw
          try obtain ⟨s0⟩ := hSw
          go_simp
          try with_reducible rfl
        try simp only [Act.put, List.setIfInBounds_toArray, List.set_cons_zero, List.set_cons_succ, List.getElem_toArray, List.getElem_cons_zero, List.getElem_cons_succ]
        refine wpAnyH_done (by kernel_rfl) ?_ _
        refine NoPanic.normal ?_
        go_wp2
        go_roundw
        case rel => exact ⟨k + 1, by have := HL.out; omega, by go_num, (hbw.trans (hb3.mono hbw.size)).drew, HM⟩
        case measure => simp [intOf]; omega
      obtain ⟨m, hm⟩ : ∃ m, k = m + 1 := ⟨k - 1, by omega⟩
      have hmlt : m < xs.length := by omega
      obtain ⟨g', off', e', _, m0, m1, m2, m3⟩ := (hA.below hbw).seg hmlt
      injection e' with e'
      injection e' with e1 e2
      subst e1 e2
      rw [getG_get hmlt] at m0 m1 m2 m3
      obtain ⟨u, hu⟩ : ∃ u, getG xs m = u := ⟨_, rfl⟩
      rw [hu] at m0 m1 m2 m3
      have hst2 : stepG xs k = (placeG t1 t2 && (placeG t3 t4 && lessG u.1 u.2.1 t1 t2)) := by
        rw [hst, show k - 1 = m by omega, hu, show (k == 0) = false by rw [beq_eq_false_iff_ne]; exact hk0, Bool.false_or]
      obtain ⟨u1, u2, u3, u4⟩ := u
      simp only at m0 m1 m2 m3 hst2
      have hg1 : decide (0 < (k : Int)) = true := by rw [decide_eq_true_iff]; omega
      have hgN : decide (0 < k) = true := by rw [decide_eq_true_iff]; omega
      have hwr : IntKind.i64.wrap ((k : Int) - 1) = (m : Int) := by rw [show (k : Int) - 1 = (m : Int) by omega]; exact IntWalk.i64_in _ (by omega)
      have hmx : (m : Int) < (xs.length : Int) := by omega
      have HL := Lib.hid hlt
      cases hs : lessG u1 u2 t1 t2
      · have HC3 := Lib.hid (fun W => by have := posLess_any u1 u2 t1 t2 W; rw [hs] at this; exact this)
        have HE := Lib.hid (segsOk_no hlt (by rw [hst2, hp, hq, hs]; rfl))
        clear hst hst2 ht hu hp hq hA hk0 hs hm
        go_wp2_with fail
        rw [← hW0]
        clear hW0
        refine (HC1.out _).mono ?_
        rintro e w2 ⟨rfl, hb2⟩
        have y0' := (hb2.cell (p := ⟨wr.heap.size, 0, none⟩) hs0).trans x0
        have y1' := (hb2.cell (p := ⟨wr.heap.size, 1, none⟩) hs0).trans x1
        have y2 := (hb2.cell (p := ⟨wr.heap.size, 2, none⟩) hs0).trans x2
        have y3 := (hb2.cell (p := ⟨wr.heap.size, 3, none⟩) hs0).trans x3
        have hs2 : wr.heap.size < w2.heap.size := by have := hb2.size; omega
        clear x0 x1 x2 x3
        go_wp2_with fail
        refine (HC2.out _).mono ?_
        rintro e w3 ⟨rfl, hb3'⟩
        have hb3'' := hb2.trans (hb3'.mono hb2.size)
        have hb3 := hb0.trans (hb3''.mono hb0.size)
        have y0 := (hb3'.cell (p := ⟨wr.heap.size, 0, none⟩) hs2).trans y0'
        have y1 := (hb3'.cell (p := ⟨wr.heap.size, 1, none⟩) hs2).trans y1'
        have hs3 : wr.heap.size < w3.heap.size := by have := hb3'.size; omega
        clear y2 y3 y0' y1'
        go_wp2_with fail
        refine wp_region_noPanic ?_
        refine wp_region_held_drew (S := (fun w' => w'.cell? ⟨g, off + m * 4, none⟩ = some (.int .i64 u1) ∧ w'.cell? ⟨g, off + m * 4 + 1, none⟩ = some (.int .i64 u2) ∧ w'.cell? ⟨g, off + m * 4 + 2, none⟩ = some (.int .i64 u3) ∧ w'.cell? ⟨g, off + m * 4 + 3, none⟩ = some (.int .i64 u4) ∧ w'.cell? ⟨wr.heap.size, 0, none⟩ = some (.int .i64 t1) ∧ w'.cell? ⟨wr.heap.size, 1, none⟩ = some (.int .i64 t2) ∧ Below wr.heap.size wr w')) (by kernel_rfl) (by exact ⟨(hb3.cell (p := ⟨g, off + m * 4, none⟩) hg).trans m0, (hb3.cell (p := ⟨g, off + m * 4 + 1, none⟩) hg).trans m1, (hb3.cell (p := ⟨g, off + m * 4 + 2, none⟩) hg).trans m2, (hb3.cell (p := ⟨g, off + m * 4 + 3, none⟩) hg).trans m3, y0, y1, hb3.drew⟩) (fun hHeld => ?_)
        refine wpAnyH_take (i := 0) (v := ?valF0Tf) rfl (by kernel_rfl) (by kernel_rfl) (by kernel_rfl) (fun _ _ _ h => h) (Or.inl ⟨by rfl, ?yieF0Tf⟩) (by assumption) ?resF0Tf
        case yieF0Tf =>
          intro w hSw
          try dsimp only at hSw
          try obtain ⟨s0, s1, s2, s3, s4, s5, s6⟩ := hSw
          go_simp
          try with_reducible rfl
        try simp only [Act.put, List.setIfInBounds_toArray, List.set_cons_zero, List.set_cons_succ, List.getElem_toArray, List.getElem_cons_zero, List.getElem_cons_succ]
        refine wpAnyH_take (i := 1) (v := ?valF1Tf) rfl (by kernel_rfl) (by kernel_rfl) (by kernel_rfl) (fun _ _ _ h => h) (Or.inl ⟨by rfl, ?yieF1Tf⟩) (by assumption) ?resF1Tf
        case yieF1Tf =>
          intro w hSw
          try dsimp only at hSw
          try obtain ⟨s0, s1, s2, s3, s4, s5, s6⟩ := hSw
          go_simp
          try with_reducible rfl
        try simp only [Act.put, List.setIfInBounds_toArray, List.set_cons_zero, List.set_cons_succ, List.getElem_toArray, List.getElem_cons_zero, List.getElem_cons_succ]
        refine wpAnyH_take (i := 2) (v := ?valF2Tf) rfl (by kernel_rfl) (by kernel_rfl) (by kernel_rfl) (fun _ _ _ h => h) (Or.inl ⟨by rfl, ?yieF2Tf⟩) (by assumption) ?resF2Tf
        case yieF2Tf =>
          intro w hSw
          try dsimp only at hSw
          try obtain ⟨s0, s1, s2, s3, s4, s5, s6⟩ := hSw
          go_simp
          try with_reducible rfl
        try simp only [Act.put, List.setIfInBounds_toArray, List.set_cons_zero, List.set_cons_succ, List.getElem_toArray, List.getElem_cons_zero, List.getElem_cons_succ]
        refine wpAnyH_take (i := 3) (v := ?valF3Tf) rfl (by kernel_rfl) (by kernel_rfl) (by kernel_rfl) (fun _ _ _ h => h) (Or.inl ⟨by rfl, ?yieF3Tf⟩) (by assumption) ?resF3Tf
        case yieF3Tf =>
          intro w hSw
          try dsimp only at hSw
          try obtain ⟨s0, s1, s2, s3, s4, s5, s6⟩ := hSw
          go_simp
          try with_reducible rfl
        try simp only [Act.put, List.setIfInBounds_toArray, List.set_cons_zero, List.set_cons_succ, List.getElem_toArray, List.getElem_cons_zero, List.getElem_cons_succ]
        refine wpAnyH_take (i := 4) (v := ?valF4Tf) rfl (by kernel_rfl) (by kernel_rfl) (by kernel_rfl) (fun _ _ _ h => h) (Or.inl ⟨by rfl, ?yieF4Tf⟩) (by assumption) ?resF4Tf
        case yieF4Tf =>
          intro w hSw
          try dsimp only at hSw
          try obtain ⟨s0, s1, s2, s3, s4, s5, s6⟩ := hSw
          go_simp
          try with_reducible rfl
        try simp only [Act.put, List.setIfInBounds_toArray, List.set_cons_zero, List.set_cons_succ, List.getElem_toArray, List.getElem_cons_zero, List.getElem_cons_succ]
        refine wpAnyH_take (i := 5) (v := ?valF5Tf) rfl (by kernel_rfl) (by kernel_rfl) (by kernel_rfl) (fun _ _ _ h => h) (Or.inl ⟨by rfl, ?yieF5Tf⟩) (by assumption) ?resF5Tf
        case yieF5Tf =>
          intro w hSw
          try dsimp only at hSw
          try obtain ⟨s0, s1, s2, s3, s4, s5, s6⟩ := hSw
          go_simp
          try with_reducible rfl
        try simp only [Act.put, List.setIfInBounds_toArray, List.set_cons_zero, List.set_cons_succ, List.getElem_toArray, List.getElem_cons_zero, List.getElem_cons_succ]
        refine wpAnyH_take (i := 6) (v := ?valF6Tf) rfl (by kernel_rfl) (by kernel_rfl) (by kernel_rfl) (fun _ _ _ h => h) (Or.inl ⟨by rfl, ?yieF6Tf⟩) (by assumption) ?resF6Tf
        case yieF6Tf =>
          intro w hSw
          try dsimp only at hSw
          try obtain ⟨s0, s1, s2, s3, s4, s5, s6⟩ := hSw
          go_simp
          try with_reducible rfl
        try simp only [Act.put, List.setIfInBounds_toArray, List.set_cons_zero, List.set_cons_succ, List.getElem_toArray, List.getElem_cons_zero, List.getElem_cons_succ]
        refine wpAnyH_take (i := 7) (v := ?valF7Tf) rfl (by kernel_rfl) (by kernel_rfl) (by kernel_rfl) (fun _ _ _ h => h) (Or.inl ⟨by rfl, ?yieF7Tf⟩) (by assumption) ?resF7Tf
        case yieF7Tf =>
          intro w hSw
          try dsimp only at hSw
          try obtain ⟨s0, s1, s2, s3, s4, s5, s6⟩ := hSw
          go_simp
          try with_reducible rfl
        try simp only [Act.put, List.setIfInBounds_toArray, List.set_cons_zero, List.set_cons_succ, List.getElem_toArray, List.getElem_cons_zero, List.getElem_cons_succ]
        refine wpAnyH_take (i := 8) (v := ?valF8Tf) rfl (by kernel_rfl) (by kernel_rfl) (by kernel_rfl) (fun _ _ _ h => h) (Or.inl ⟨by rfl, ?yieF8Tf⟩) (by assumption) ?resF8Tf
        case yieF8Tf =>
          intro w hSw
          try dsimp only at hSw
          try obtain ⟨s0, s1, s2, s3, s4, s5, s6⟩ := hSw
          go_simp
          try with_reducible rfl
        try simp only [Act.put, List.setIfInBounds_toArray, List.set_cons_zero, List.set_cons_succ, List.getElem_toArray, List.getElem_cons_zero, List.getElem_cons_succ]
        refine wpAnyH_take (i := 9) (v := ?valF9Tf) rfl (by kernel_rfl) (by kernel_rfl) (by kernel_rfl) (fun _ _ _ h => h) (Or.inl ⟨by rfl, ?yieF9Tf⟩) (by assumption) ?resF9Tf
        case yieF9Tf =>
          intro w hSw
          try dsimp only at hSw
          try obtain ⟨s0, s1, s2, s3, s4, s5, s6⟩ := hSw
          go_simp
          try with_reducible rfl
        try simp only [Act.put, List.setIfInBounds_toArray, List.set_cons_zero, List.set_cons_succ, List.getElem_toArray, List.getElem_cons_zero, List.getElem_cons_succ]
        refine wpAnyH_take (i := 10) (v := ?valF10Tf) rfl (by kernel_rfl) (by kernel_rfl) (by kernel_rfl) (fun _ _ _ h => h) (Or.inl ⟨by rfl, ?yieF10Tf⟩) (by assumption) ?resF10Tf
        case yieF10Tf =>
          intro w hSw
          try dsimp only at hSw
          try obtain ⟨s0, s1, s2, s3, s4, s5, s6⟩ := hSw
          go_simp
          try with_reducible rfl
        try simp only [Act.put, List.setIfInBounds_toArray, List.set_cons_zero, List.set_cons_succ, List.getElem_toArray, List.getElem_cons_zero, List.getElem_cons_succ]
        refine wpAnyH_ready (rs := [11]) (by kernel_rfl) (by simp) ?_
        refine AllReadyH.cons rfl (fun K hK => ?_) AllReadyH.nil
        go_simp
        go_at_call 45
        refine (HC3.out _).mono ?_
        rintro e w4 ⟨rfl, hb4'⟩
        have hb4 : Below wr.heap.size wr w4 := hb3.drew.trans (hb4'.mono hb3.drew.size)
        go_wp2_with fail
        refine hK.out _ _ (by exact ⟨(hb4.cell (p := ⟨g, off + m * 4, none⟩) hg).trans m0, (hb4.cell (p := ⟨g, off + m * 4 + 1, none⟩) hg).trans m1, (hb4.cell (p := ⟨g, off + m * 4 + 2, none⟩) hg).trans m2, (hb4.cell (p := ⟨g, off + m * 4 + 3, none⟩) hg).trans m3, (hb4'.cell (p := ⟨wr.heap.size, 0, none⟩) hs3).trans y0, (hb4'.cell (p := ⟨wr.heap.size, 1, none⟩) hs3).trans y1, hb4⟩) (fun hHeld => ?_)
        clear hK K
        try simp only [Act.put, List.setIfInBounds_toArray, List.set_cons_zero, List.set_cons_succ, List.getElem_toArray, List.getElem_cons_zero, List.getElem_cons_succ]
        refine wpAnyH_take (i := 12) (v := ?valF12Tf) rfl (by kernel_rfl) (by kernel_rfl) (by kernel_rfl) (fun _ _ _ h => h) (Or.inl ⟨by rfl, ?yieF12Tf⟩) (by assumption) ?resF12Tf
        case yieF12Tf =>
          intro w hSw
          try dsimp only at hSw
          try obtain ⟨s0, s1, s2, s3, s4, s5, s6⟩ := hSw
          go_simp
          try with_reducible rfl
        try simp only [Act.put, List.setIfInBounds_toArray, List.set_cons_zero, List.set_cons_succ, List.getElem_toArray, List.getElem_cons_zero, List.getElem_cons_succ]
        refine wpAnyH_take (i := 13) (v := ?valF13Tf) rfl (by kernel_rfl) (by kernel_rfl) (by kernel_rfl) (fun _ _ _ h => h) (Or.inl ⟨by rfl, ?yieF13Tf⟩) (by assumption) ?resF13Tf
        case yieF13Tf =>
          intro w hSw
          try dsimp only at hSw
          try obtain ⟨s0, s1, s2, s3, s4, s5, s6⟩ := hSw
          go_simp
          try with_reducible rfl
        try simp only [Act.put, List.setIfInBounds_toArray, List.set_cons_zero, List.set_cons_succ, List.getElem_toArray, List.getElem_cons_zero, List.getElem_cons_succ]
        refine wpAnyH_done (by kernel_rfl) ?_ _
        refine NoPanic.normal ?_
        go_wp2
        go_ret
        exact ⟨ret_bool HE.out.symm, hbw.trans (hb4.mono hbw.size)⟩
      · have HC3 := Lib.hid (fun W => by have := posLess_any u1 u2 t1 t2 W; rw [hs] at this; exact this)
        have HM := Lib.hid (more_step HP.out (by rw [hst2, hp, hq, hs]; rfl))
        clear hst hst2 ht hu hp hq hA hk0 hs hm
        go_wp2_with fail
        rw [← hW0]
        clear hW0
        refine (HC1.out _).mono ?_
        rintro e w2 ⟨rfl, hb2⟩
        have y0' := (hb2.cell (p := ⟨wr.heap.size, 0, none⟩) hs0).trans x0
        have y1' := (hb2.cell (p := ⟨wr.heap.size, 1, none⟩) hs0).trans x1
        have y2 := (hb2.cell (p := ⟨wr.heap.size, 2, none⟩) hs0).trans x2
        have y3 := (hb2.cell (p := ⟨wr.heap.size, 3, none⟩) hs0).trans x3
        have hs2 : wr.heap.size < w2.heap.size := by have := hb2.size; omega
        clear x0 x1 x2 x3
        go_wp2_with fail
        refine (HC2.out _).mono ?_
        rintro e w3 ⟨rfl, hb3'⟩
        have hb3'' := hb2.trans (hb3'.mono hb2.size)
        have hb3 := hb0.trans (hb3''.mono hb0.size)
        have y0 := (hb3'.cell (p := ⟨wr.heap.size, 0, none⟩) hs2).trans y0'
        have y1 := (hb3'.cell (p := ⟨wr.heap.size, 1, none⟩) hs2).trans y1'
        have hs3 : wr.heap.size < w3.heap.size := by have := hb3'.size; omega
        clear y2 y3 y0' y1'
        go_wp2_with fail
        refine wp_region_noPanic ?_
        refine wp_region_held_drew (S := (fun w' => w'.cell? ⟨g, off + m * 4, none⟩ = some (.int .i64 u1) ∧ w'.cell? ⟨g, off + m * 4 + 1, none⟩ = some (.int .i64 u2) ∧ w'.cell? ⟨g, off + m * 4 + 2, none⟩ = some (.int .i64 u3) ∧ w'.cell? ⟨g, off + m * 4 + 3, none⟩ = some (.int .i64 u4) ∧ w'.cell? ⟨wr.heap.size, 0, none⟩ = some (.int .i64 t1) ∧ w'.cell? ⟨wr.heap.size, 1, none⟩ = some (.int .i64 t2) ∧ Below wr.heap.size wr w')) (by kernel_rfl) (by exact ⟨(hb3.cell (p := ⟨g, off + m * 4, none⟩) hg).trans m0, (hb3.cell (p := ⟨g, off + m * 4 + 1, none⟩) hg).trans m1, (hb3.cell (p := ⟨g, off + m * 4 + 2, none⟩) hg).trans m2, (hb3.cell (p := ⟨g, off + m * 4 + 3, none⟩) hg).trans m3, y0, y1, hb3.drew⟩) (fun hHeld => ?_)
        refine wpAnyH_take (i := 0) (v := ?valF0Tt) rfl (by kernel_rfl) (by kernel_rfl) (by kernel_rfl) (fun _ _ _ h => h) (Or.inl ⟨by rfl, ?yieF0Tt⟩) (by assumption) ?resF0Tt
        case yieF0Tt =>
          intro w hSw
          try dsimp only at hSw
          try obtain ⟨s0, s1, s2, s3, s4, s5, s6⟩ := hSw
          go_simp
          try with_reducible rfl
        try simp only [Act.put, List.setIfInBounds_toArray, List.set_cons_zero, List.set_cons_succ, List.getElem_toArray, List.getElem_cons_zero, List.getElem_cons_succ]
        refine wpAnyH_take (i := 1) (v := ?valF1Tt) rfl (by kernel_rfl) (by kernel_rfl) (by kernel_rfl) (fun _ _ _ h => h) (Or.inl ⟨by rfl, ?yieF1Tt⟩) (by assumption) ?resF1Tt
        case yieF1Tt =>
          intro w hSw
          try dsimp only at hSw
          try obtain ⟨s0, s1, s2, s3, s4, s5, s6⟩ := hSw
          go_simp
          try with_reducible rfl
        try simp only [Act.put, List.setIfInBounds_toArray, List.set_cons_zero, List.set_cons_succ, List.getElem_toArray, List.getElem_cons_zero, List.getElem_cons_succ]
        refine wpAnyH_take (i := 2) (v := ?valF2Tt) rfl (by kernel_rfl) (by kernel_rfl) (by kernel_rfl) (fun _ _ _ h => h) (Or.inl ⟨by rfl, ?yieF2Tt⟩) (by assumption) ?resF2Tt
        case yieF2Tt =>
          intro w hSw
          try dsimp only at hSw
          try obtain ⟨s0, s1, s2, s3, s4, s5, s6⟩ := hSw
          go_simp
          try with_reducible rfl
        try simp only [Act.put, List.setIfInBounds_toArray, List.set_cons_zero, List.set_cons_succ, List.getElem_toArray, List.getElem_cons_zero, List.getElem_cons_succ]
        refine wpAnyH_take (i := 3) (v := ?valF3Tt) rfl (by kernel_rfl) (by kernel_rfl) (by kernel_rfl) (fun _ _ _ h => h) (Or.inl ⟨by rfl, ?yieF3Tt⟩) (by assumption) ?resF3Tt
        case yieF3Tt =>
          intro w hSw
          try dsimp only at hSw
          try obtain ⟨s0, s1, s2, s3, s4, s5, s6⟩ := hSw
          go_simp
          try with_reducible rfl
        try simp only [Act.put, List.setIfInBounds_toArray, List.set_cons_zero, List.set_cons_succ, List.getElem_toArray, List.getElem_cons_zero, List.getElem_cons_succ]
        refine wpAnyH_take (i := 4) (v := ?valF4Tt) rfl (by kernel_rfl) (by kernel_rfl) (by kernel_rfl) (fun _ _ _ h => h) (Or.inl ⟨by rfl, ?yieF4Tt⟩) (by assumption) ?resF4Tt
        case yieF4Tt =>
          intro w hSw
          try dsimp only at hSw
          try obtain ⟨s0, s1, s2, s3, s4, s5, s6⟩ := hSw
          go_simp
          try with_reducible rfl
        try simp only [Act.put, List.setIfInBounds_toArray, List.set_cons_zero, List.set_cons_succ, List.getElem_toArray, List.getElem_cons_zero, List.getElem_cons_succ]
        refine wpAnyH_take (i := 5) (v := ?valF5Tt) rfl (by kernel_rfl) (by kernel_rfl) (by kernel_rfl) (fun _ _ _ h => h) (Or.inl ⟨by rfl, ?yieF5Tt⟩) (by assumption) ?resF5Tt
        case yieF5Tt =>
          intro w hSw
          try dsimp only at hSw
          try obtain ⟨s0, s1, s2, s3, s4, s5, s6⟩ := hSw
          go_simp
          try with_reducible rfl
        try simp only [Act.put, List.setIfInBounds_toArray, List.set_cons_zero, List.set_cons_succ, List.getElem_toArray, List.getElem_cons_zero, List.getElem_cons_succ]
        refine wpAnyH_take (i := 6) (v := ?valF6Tt) rfl (by kernel_rfl) (by kernel_rfl) (by kernel_rfl) (fun _ _ _ h => h) (Or.inl ⟨by rfl, ?yieF6Tt⟩) (by assumption) ?resF6Tt
        case yieF6Tt =>
          intro w hSw
          try dsimp only at hSw
          try obtain ⟨s0, s1, s2, s3, s4, s5, s6⟩ := hSw
          go_simp
          try with_reducible rfl
        try simp only [Act.put, List.setIfInBounds_toArray, List.set_cons_zero, List.set_cons_succ, List.getElem_toArray, List.getElem_cons_zero, List.getElem_cons_succ]
        refine wpAnyH_take (i := 7) (v := ?valF7Tt) rfl (by kernel_rfl) (by kernel_rfl) (by kernel_rfl) (fun _ _ _ h => h) (Or.inl ⟨by rfl, ?yieF7Tt⟩) (by assumption) ?resF7Tt
        case yieF7Tt =>
          intro w hSw
          try dsimp only at hSw
          try obtain ⟨s0, s1, s2, s3, s4, s5, s6⟩ := hSw
          go_simp
          try with_reducible rfl
        try simp only [Act.put, List.setIfInBounds_toArray, List.set_cons_zero, List.set_cons_succ, List.getElem_toArray, List.getElem_cons_zero, List.getElem_cons_succ]
        refine wpAnyH_take (i := 8) (v := ?valF8Tt) rfl (by kernel_rfl) (by kernel_rfl) (by kernel_rfl) (fun _ _ _ h => h) (Or.inl ⟨by rfl, ?yieF8Tt⟩) (by assumption) ?resF8Tt
        case yieF8Tt =>
          intro w hSw
          try dsimp only at hSw
          try obtain ⟨s0, s1, s2, s3, s4, s5, s6⟩ := hSw
          go_simp
          try with_reducible rfl
        try simp only [Act.put, List.setIfInBounds_toArray, List.set_cons_zero, List.set_cons_succ, List.getElem_toArray, List.getElem_cons_zero, List.getElem_cons_succ]
        refine wpAnyH_take (i := 9) (v := ?valF9Tt) rfl (by kernel_rfl) (by kernel_rfl) (by kernel_rfl) (fun _ _ _ h => h) (Or.inl ⟨by rfl, ?yieF9Tt⟩) (by assumption) ?resF9Tt
        case yieF9Tt =>
          intro w hSw
          try dsimp only at hSw
          try obtain ⟨s0, s1, s2, s3, s4, s5, s6⟩ := hSw
          go_simp
          try with_reducible rfl
        try simp only [Act.put, List.setIfInBounds_toArray, List.set_cons_zero, List.set_cons_succ, List.getElem_toArray, List.getElem_cons_zero, List.getElem_cons_succ]
        refine wpAnyH_take (i := 10) (v := ?valF10Tt) rfl (by kernel_rfl) (by kernel_rfl) (by kernel_rfl) (fun _ _ _ h => h) (Or.inl ⟨by rfl, ?yieF10Tt⟩) (by assumption) ?resF10Tt
        case yieF10Tt =>
          intro w hSw
          try dsimp only at hSw
          try obtain ⟨s0, s1, s2, s3, s4, s5, s6⟩ := hSw
          go_simp
          try with_reducible rfl
        try simp only [Act.put, List.setIfInBounds_toArray, List.set_cons_zero, List.set_cons_succ, List.getElem_toArray, List.getElem_cons_zero, List.getElem_cons_succ]
        refine wpAnyH_ready (rs := [11]) (by kernel_rfl) (by simp) ?_
        refine AllReadyH.cons rfl (fun K hK => ?_) AllReadyH.nil
        go_simp
        go_at_call 45
        refine (HC3.out _).mono ?_
        rintro e w4 ⟨rfl, hb4'⟩
        have hb4 : Below wr.heap.size wr w4 := hb3.drew.trans (hb4'.mono hb3.drew.size)
        go_wp2_with fail
        refine hK.out _ _ (by exact ⟨(hb4.cell (p := ⟨g, off + m * 4, none⟩) hg).trans m0, (hb4.cell (p := ⟨g, off + m * 4 + 1, none⟩) hg).trans m1, (hb4.cell (p := ⟨g, off + m * 4 + 2, none⟩) hg).trans m2, (hb4.cell (p := ⟨g, off + m * 4 + 3, none⟩) hg).trans m3, (hb4'.cell (p := ⟨wr.heap.size, 0, none⟩) hs3).trans y0, (hb4'.cell (p := ⟨wr.heap.size, 1, none⟩) hs3).trans y1, hb4⟩) (fun hHeld => ?_)
        clear hK K
        try simp only [Act.put, List.setIfInBounds_toArray, List.set_cons_zero, List.set_cons_succ, List.getElem_toArray, List.getElem_cons_zero, List.getElem_cons_succ]
        refine wpAnyH_take (i := 12) (v := ?valF12Tt) rfl (by kernel_rfl) (by kernel_rfl) (by kernel_rfl) (fun _ _ _ h => h) (Or.inl ⟨by rfl, ?yieF12Tt⟩) (by assumption) ?resF12Tt
        case yieF12Tt =>
          intro w hSw
          try dsimp only at hSw
          try obtain ⟨s0, s1, s2, s3, s4, s5, s6⟩ := hSw
          go_simp
          try with_reducible rfl
        try simp only [Act.put, List.setIfInBounds_toArray, List.set_cons_zero, List.set_cons_succ, List.getElem_toArray, List.getElem_cons_zero, List.getElem_cons_succ]
        refine wpAnyH_take (i := 13) (v := ?valF13Tt) rfl (by kernel_rfl) (by kernel_rfl) (by kernel_rfl) (fun _ _ _ h => h) (Or.inl ⟨by rfl, ?yieF13Tt⟩) (by assumption) ?resF13Tt
        case yieF13Tt =>
          intro w hSw
          try dsimp only at hSw
          try obtain ⟨s0, s1, s2, s3, s4, s5, s6⟩ := hSw
          go_simp
          try with_reducible rfl
        try simp only [Act.put, List.setIfInBounds_toArray, List.set_cons_zero, List.set_cons_succ, List.getElem_toArray, List.getElem_cons_zero, List.getElem_cons_succ]
        refine wpAnyH_done (by kernel_rfl) ?_ _
        refine NoPanic.normal ?_
        go_wp2
        go_roundw
        case rel => exact ⟨k + 1, by have := HL.out; omega, by go_num, hbw.trans (hb4.mono hbw.size), HM⟩
        case measure => simp [intOf]; omega
    · have HE := Lib.hid (segsOk_all hlt HP.out)
      have HE2 := Lib.hid (show decide (xs.length ≤ 1280) = true from decide_eq_true HB.out)
      clear hA
      go_wp2
      go_ret
      exact ⟨ret_bool (HE.out.trans HE2.out).symm, hbw⟩
end Go.Proofs.Ytdkliboehdohdaa
