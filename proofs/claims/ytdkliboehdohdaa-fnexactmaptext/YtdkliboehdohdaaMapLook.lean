/-
  Whence a place came: the list is searched from its end (the model), or by halves (the program): both sides, for all lists and places.
-/
import Derived.Test.YtdkliboehdohdaaSegsOk
namespace Go.Proofs.Ytdkliboehdohdaa
open Go.RowKit

/-- This one begins at the place, or ahead of it in its line. -/
def hitG (l c : Int) (x : Sg) : Bool := x.1 == l && decide (x.2.1 ≤ c)
/-- The last of the first n that does. -/
def lookN (xs : List Sg) (l c : Int) : Nat → Option Sg
  | 0 => none
  | n + 1 => if hitG l c (getG xs n) = true then some (getG xs n) else lookN xs l c n
def lookG (xs : List Sg) (l c : Int) : Option Sg := lookN xs l c xs.length
theorem lookN_hit {xs : List Sg} {l c : Int} {n : Nat} (h : hitG l c (getG xs n) = true) : lookN xs l c (n + 1) = some (getG xs n) := by simp [lookN, h]
theorem lookN_miss {xs : List Sg} {l c : Int} {n : Nat} (h : hitG l c (getG xs n) = false) : lookN xs l c (n + 1) = lookN xs l c n := by simp [lookN, h]
theorem lookN_more {xs : List Sg} {l c : Int} (n : Nat) : ∀ m : Nat, (∀ j, n ≤ j → j < n + m → hitG l c (getG xs j) = false) → lookN xs l c (n + m) = lookN xs l c n := by
  intro m
  induction m with
  | zero => intro _; rfl
  | succ m ih =>
    intro h
    rw [← Nat.add_assoc, lookN_miss (h (n + m) (by omega) (by omega)), ih (fun j h1 h2 => h j h1 (by omega))]
theorem lookG_upto {xs : List Sg} {l c : Int} {n : Nat} (hn : n ≤ xs.length) (h : ∀ j, n ≤ j → j < xs.length → hitG l c (getG xs j) = false) : lookG xs l c = lookN xs l c n := by
  have h1 := lookN_more (xs := xs) (l := l) (c := c) n (xs.length - n) (fun j h1 h2 => h j h1 (by omega))
  rw [show n + (xs.length - n) = xs.length by omega] at h1
  exact h1
theorem lookN_none {xs : List Sg} {l c : Int} (n : Nat) (h : ∀ j, j < n → hitG l c (getG xs j) = false) : lookN xs l c n = none := by
  have h1 := lookN_more (xs := xs) (l := l) (c := c) 0 n (fun j _ h2 => h j (by omega))
  rw [Nat.zero_add] at h1
  exact h1

theorem segsOk_step {xs : List Sg} (h : segsOk xs = true) {k : Nat} (hk : k < xs.length) : stepG xs k = true := by
  simp only [segsOk, orderG, Bool.and_eq_true, List.all_eq_true, List.mem_range] at h
  exact h.2 k hk
theorem segsOk_len {xs : List Sg} (h : segsOk xs = true) : xs.length ≤ 1280 := by
  simp only [segsOk, Bool.and_eq_true, decide_eq_true_eq] at h
  exact h.1
theorem lessG_iff {a b c d : Int} : lessG a b c d = true ↔ (a < c ∨ a = c ∧ b < d) := by simp [lessG]
theorem segsOk_next {xs : List Sg} (h : segsOk xs = true) {k : Nat} (hk : k + 1 < xs.length) : lessG (getG xs k).1 (getG xs k).2.1 (getG xs (k + 1)).1 (getG xs (k + 1)).2.1 = true := by
  have h1 := segsOk_step h hk
  simp only [stepG, Bool.and_eq_true, Bool.or_eq_true, beq_iff_eq] at h1
  rcases h1.2.2 with h2 | h2
  · omega
  · exact h2
theorem segsOk_less {xs : List Sg} (h : segsOk xs = true) (k : Nat) : ∀ m : Nat, k + m + 1 < xs.length → lessG (getG xs k).1 (getG xs k).2.1 (getG xs (k + m + 1)).1 (getG xs (k + m + 1)).2.1 = true := by
  intro m
  induction m with
  | zero => intro hm; exact segsOk_next h hm
  | succ m ih =>
    intro hm
    have h1 := lessG_iff.1 (ih (by omega))
    have h2 := lessG_iff.1 (segsOk_next h (k := k + m + 1) (by omega))
    rw [show k + (m + 1) + 1 = k + m + 1 + 1 by omega]
    exact lessG_iff.2 (by omega)
theorem segsOk_lt {xs : List Sg} (h : segsOk xs = true) {a b : Nat} (hab : a < b) (hb : b < xs.length) : lessG (getG xs a).1 (getG xs a).2.1 (getG xs b).1 (getG xs b).2.1 = true := by
  have h1 := segsOk_less h a (b - a - 1) (by omega)
  rwa [show a + (b - a - 1) + 1 = b by omega] at h1

/-- This one begins behind the place. -/
def pastG (xs : List Sg) (l c : Int) (j : Nat) : Bool := lessG l c (getG xs j).1 (getG xs j).2.1
theorem pastG_miss {xs : List Sg} {l c : Int} {j : Nat} (h : pastG xs l c j = true) : hitG l c (getG xs j) = false := by
  have h1 := lessG_iff.1 h
  simp only [hitG, Bool.and_eq_false_iff, beq_eq_false_iff_ne, decide_eq_false_iff_not]
  omega
/-- By halves: where no one ahead of k begins behind the place, and all from k on do. -/
theorem look_halves {xs : List Sg} (h : segsOk xs = true) {l c : Int} {k : Nat} (hk : k ≤ xs.length) (h2 : ∀ j, j = k → j < xs.length → pastG xs l c j = true) : lookG xs l c = lookN xs l c k := by
  refine lookG_upto hk fun j h3 h4 => pastG_miss ?_
  by_cases e : j = k
  · exact h2 j e h4
  · have h5 := lessG_iff.1 (h2 k rfl (by omega))
    have h6 := lessG_iff.1 (segsOk_lt h (a := k) (b := j) (by omega) h4)
    exact lessG_iff.2 (by omega)
theorem look_line {xs : List Sg} (h : segsOk xs = true) {l c : Int} {k : Nat} (hk : k < xs.length) (h1 : pastG xs l c k = false) (h2 : ¬ (getG xs k).1 = l) : lookN xs l c (k + 1) = none := by
  have h3 : ¬ (l < (getG xs k).1 ∨ l = (getG xs k).1 ∧ c < (getG xs k).2.1) := fun h => by rw [show pastG xs l c k = true from lessG_iff.2 h] at h1; cases h1
  refine lookN_none _ fun j hj => ?_
  simp only [hitG, Bool.and_eq_false_iff, beq_eq_false_iff_ne, decide_eq_false_iff_not]
  by_cases e : j = k
  · subst e; exact .inl h2
  · have h6 := lessG_iff.1 (segsOk_lt h (a := j) (b := k) (by omega) hk)
    omega
theorem look_there {xs : List Sg} {l c : Int} {k : Nat} (h1 : pastG xs l c k = false) (h2 : (getG xs k).1 = l) : lookN xs l c (k + 1) = some (getG xs k) := by
  have h3 : ¬ (l < (getG xs k).1 ∨ l = (getG xs k).1 ∧ c < (getG xs k).2.1) := fun h => by rw [show pastG xs l c k = true from lessG_iff.2 h] at h1; cases h1
  refine lookN_hit ?_
  simp only [hitG, Bool.and_eq_true, beq_iff_eq, decide_eq_true_eq]
  omega

/-- The same, of lists that are in order alone. -/
def lookO (xs : List Sg) (l c : Int) : Option Sg := if segsOk xs = true then lookG xs l c else none
theorem lookO_no {xs : List Sg} {l c : Int} (h : segsOk xs = false) : lookO xs l c = none := by simp [lookO, h]
theorem lookO_ok {xs : List Sg} {l c : Int} (h : segsOk xs = true) : lookO xs l c = lookG xs l c := by simp [lookO, h]
/-- What is told of it. -/
def lookV : Option Sg → Value
  | some x => .tuple #[.agg #[.int .i64 x.2.2.1, .int .i64 x.2.2.2], .bool true]
  | none => .tuple #[.agg #[.int .i64 0, .int .i64 0], .bool false]
theorem getG_pos {xs : List Sg} {k : Nat} (h : k < xs.length) {A : Option Addr} {w : World} (hA : SlIs w A (rowG xs)) :
    ∃ g off, A = some ⟨g, off, none⟩ ∧ g < w.heap.size ∧ w.cell? ⟨g, off + k * 4, none⟩ = some (.int .i64 (getG xs k).1) ∧ w.cell? ⟨g, off + k * 4 + 1, none⟩ = some (.int .i64 (getG xs k).2.1) ∧ w.cell? ⟨g, off + k * 4 + 2, none⟩ = some (.int .i64 (getG xs k).2.2.1) ∧ w.cell? ⟨g, off + k * 4 + 3, none⟩ = some (.int .i64 (getG xs k).2.2.2) := by
  have h1 := hA.seg h
  rw [getG_get h] at h1
  exact h1

theorem put2 {w : World} {g B : Nat} {x y : Value} {t : TypeId} (h : BlkG w g #[x, y] t) (u v : Value) (hB : B ≤ g) :
    ((w.setCell ⟨g, 0, none⟩ u).setCell ⟨g, 1, none⟩ v).cell? ⟨g, 0, none⟩ = some u ∧ ((w.setCell ⟨g, 0, none⟩ u).setCell ⟨g, 1, none⟩ v).cell? ⟨g, 1, none⟩ = some v ∧ Below B w ((w.setCell ⟨g, 0, none⟩ u).setCell ⟨g, 1, none⟩ v) := by
  have h1 := (h.set 0 u).set 1 v
  exact ⟨h1.cell 0, h1.cell 1, ((Below.refl B w).setCell (p := ⟨g, 0, none⟩) hB _).setCell (p := ⟨g, 1, none⟩) hB _⟩

theorem cell_ltG {w : World} {g i : Nat} {v : Value} (h : w.cell? ⟨g, i, none⟩ = some v) : g < w.heap.size := World.block_lt_of_cell? _ _ h

set_option maxRecDepth 100000 in
set_option maxHeartbeats 2000000 in
theorem l9Look_any (A : Option Addr) (c : Nat) (xs : List Sg) (l cc : Int) (w : World) (hl : xs.length ≤ 2 ^ 40) (hA : SlIs w A (rowG xs)) :
    Calls Try.prog 35 #[.slice A xs.length c, .agg #[.int .i64 l, .int .i64 cc]] w fun e w' => e = .returned (lookV (lookG xs l cc)) ∧ Below w.heap.size w w' := by
  obtain ⟨W0, hW0⟩ : ∃ W0, W0 = (w.alloc (.cells #[.int .i64 l, .int .i64 cc] 31)).alloc (.cells #[.int .i64 0, .int .i64 0] 31) := ⟨_, rfl⟩
  have hb0 : Below w.heap.size w W0 := by rw [hW0]; exact ((Below.refl _ w).alloc (Nat.le_refl _) _).alloc (by simp) _
  have hs0 : W0.heap.size = w.heap.size + 1 + 1 := by rw [hW0]; simp
  have HA0 := Lib.hid (hA.below hb0)
  have p0 : W0.cell? ⟨w.heap.size, 0, none⟩ = some (.int .i64 l) := by rw [hW0]; exact cell_new2a w _ _ _ _ 0 _ rfl
  have p1 : W0.cell? ⟨w.heap.size, 1, none⟩ = some (.int .i64 cc) := by rw [hW0]; exact cell_new2a w _ _ _ _ 1 _ rfl
  have q0 : W0.cell? ⟨w.heap.size + 1, 0, none⟩ = some (.int .i64 0) := by rw [hW0]; exact cell_new2b w _ _ _ _ 0 _ rfl
  have q1 : W0.cell? ⟨w.heap.size + 1, 1, none⟩ = some (.int .i64 0) := by rw [hW0]; exact cell_new2b w _ _ _ _ 1 _ rfl
  have HO := Lib.hid (show BlkG W0 (w.heap.size + 1) #[.int .i64 0, .int .i64 0] 31 by
    have := blkG_new (w.alloc (.cells #[.int .i64 l, .int .i64 cc] 31)) #[.int .i64 0, .int .i64 0] 31
    rw [World.size_alloc] at this
    rw [hW0]
    exact this)
  clear hA
  go_enter Try.func35, Try.ntmps35
  go_wp2_with fail
  rw [← hW0]
  clear hW0
  go_loopw [6] (fun i wr => ∃ n : Nat, n ≤ xs.length ∧ i = .int .i64 ((n : Int) - 1) ∧ Hid (lookG xs l cc = lookN xs l cc n) ∧ Below W0.heap.size W0 wr) (fun i _ => (intOf i + 1).toNat)
  case atStart => exact ⟨xs.length, Nat.le_refl _, rfl, Lib.hid rfl, Below.refl _ _⟩
  case round =>
    obtain ⟨n, hn, rfl, HL, hbw⟩ := hrel
    have hz := hbw.size
    have r0 := (hbw.cell (p := ⟨w.heap.size, 0, none⟩) (by show w.heap.size < _; omega)).trans p0
    have r1 := (hbw.cell (p := ⟨w.heap.size, 1, none⟩) (by show w.heap.size < _; omega)).trans p1
    have hO := HO.out.stay (hbw.block _ HO.out.lt)
    have s0 := hO.cell 0
    have s1 := hO.cell 1
    have f0 := hO.frozen 0
    have f1 := hO.frozen 1
    simp only [List.getElem?_toArray, List.getElem?_cons_zero, List.getElem?_cons_succ] at s0 s1
    have HO1 := Lib.hid hO
    clear hO p0 p1 q0 q1
    cases n with
    | zero =>
      have d0 : decide ((((0 : Nat) : Int) - 1) ≥ 0) = false := by decide
      have P2 := put2 HO1.out (.int .i64 0) (.int .i64 0) (B := w.heap.size) (Nat.le_succ _)
      have HE := Lib.hid HL.out
      go_wp2_with fail
      exact bodyPost_ret (v := .tuple #[.agg #[.int .i64 0, .int .i64 0], .bool false]) (by simp [results, Try.results35, go_sem, P2.1, P2.2.1]) rfl ⟨by rw [HE.out]; rfl, (hb0.trans (hbw.mono hb0.size)).trans P2.2.2⟩
    | succ n =>
      have HB := Lib.hid hbw
      obtain ⟨g, off, rfl, hg, h0, h1, h2, h3⟩ := getG_pos (show n < xs.length by omega) (HA0.out.below hbw)
      have hx : (n : Int) < (xs.length : Int) := by omega
      rw [show (((n + 1 : Nat) : Int) - 1) = (n : Int) by omega]
      have d0 : decide ((n : Int) ≥ 0) = true := by simp
      cases hh : hitG l cc (getG xs n)
      · have HL2 := Lib.hid (HL.out.trans (lookN_miss hh))
        generalize getG xs n = t at *
        obtain ⟨t1, t2, t3, t4⟩ := t
        simp only [hitG, Bool.and_eq_false_iff] at hh h0 h1 h2 h3
        by_cases he : t1 = l
        · subst he
          have e1 : (t1 == t1) = true := by simp
          have e2 : decide (t2 ≤ cc) = false := by simpa using hh
          clear hh
          go_wp2_with fail
          go_quiet (fail)
          go_wp2_with fail
          go_roundw
          case rel => exact ⟨n, by omega, by go_num, HL2, hbw.trans ((below_draws _).mono hbw.size)⟩
          case measure => simp [intOf]
        · have e1 : (t1 == l) = false := by simpa using he
          clear hh
          go_wp2_with fail
          go_quiet (fail)
          go_wp2_with fail
          go_roundw
          case rel => exact ⟨n, by omega, by go_num, HL2, hbw.trans ((below_draws _).mono hbw.size)⟩
          case measure => simp [intOf]
      · have HL2 := Lib.hid (HL.out.trans (lookN_hit hh))
        generalize getG xs n = t at *
        obtain ⟨t1, t2, t3, t4⟩ := t
        simp only [hitG, Bool.and_eq_true, beq_iff_eq, decide_eq_true_eq] at hh h0 h1 h2 h3
        obtain ⟨rfl, hh⟩ := hh
        have e1 : (t1 == t1) = true := by simp
        have e2 : decide (t2 ≤ cc) = true := by simpa using hh
        clear hh
        go_wp2_with fail
        go_quiet (fail)
        go_wp2_with fail
        have P2 := put2 (HO1.out.stay (w' := wr.drewN nq) rfl) (.int .i64 t3) (.int .i64 t4) (B := w.heap.size) (Nat.le_succ _)
        exact bodyPost_ret (v := .tuple #[.agg #[.int .i64 t3, .int .i64 t4], .bool true]) (by simp [results, Try.results35, go_sem, P2.1, P2.2.1]) rfl ⟨by rw [HL2.out]; rfl, ((hb0.trans (HB.out.mono hb0.size)).trans ((below_draws _).mono (hb0.trans (HB.out.mono hb0.size)).size)).trans P2.2.2⟩
set_option maxRecDepth 100000 in
set_option maxHeartbeats 2000000 in
/-- What is searched by halves: no one ahead of it alone is asked for, and the one there, if there is one, is. -/
theorem search_any {FN : Nat} {c1 c2 : Value} (n : Nat) (p : Nat → Bool) (w : World) (hFN : ∀ args w, (callFunc FN args).run Try.prog w = .ok (.enter FN args) w) (hsz : n ≤ 2 ^ 40)
    (hc : ∀ (i : Nat) (w' : World), i < n → Below w.heap.size w w' → Calls Try.prog FN #[.int .i64 i, c1, c2] w' fun e w'' => e = .returned (.bool (p i)) ∧ Below w'.heap.size w' w'') :
    Calls Try.prog 52 #[.int .i64 n, .func (.func FN) #[] #[c1, c2]] w fun e w' => ∃ k : Nat, k ≤ n ∧ (∀ j, j + 1 = k → p j = false) ∧ (∀ j, j = k → j < n → p j = true) ∧ e = .returned (.int .i64 k) ∧ Below w.heap.size w w' := by
  have HC := Lib.hid hc
  clear hc
  go_enter Try.func52, Try.ntmps52
  go_wp2_with fail
  go_loopw [5, 6, 7] (fun i j _ wr => ∃ lo hi : Nat, i = .int .i64 lo ∧ j = .int .i64 hi ∧ lo ≤ hi ∧ hi ≤ n ∧ Hid ((∀ j, j + 1 = lo → p j = false) ∧ (∀ j, j = hi → j < n → p j = true)) ∧ Below w.heap.size w wr) (fun i j _ _ => (intOf j).toNat - (intOf i).toNat)
  case atStart => exact ⟨0, n, rfl, rfl, Nat.zero_le _, Nat.le_refl _, Lib.hid ⟨fun j h => by omega, fun j h1 h2 => by omega⟩, Below.refl _ _⟩
  case round =>
    obtain ⟨lo, hi, rfl, rfl, hlh, hin, HP, hbw⟩ := hrel
    by_cases hlt : lo < hi
    · have hc := HC.out ((lo + hi) / 2) wr (by omega) hbw
      rw [show (((lo + hi) / 2 : Nat) : Int) = ((lo : Int) + (hi : Int)) / 2 by omega] at hc
      have HM := Lib.hid hc
      clear hc
      go_wp2_with fail
      refine HM.out.mono ?_
      rintro e w1 ⟨rfl, hb1⟩
      have hz1 := hb1.size
      cases hp : p ((lo + hi) / 2)
      · have HQ := Lib.hid (show (∀ j, j + 1 = (lo + hi) / 2 + 1 → p j = false) ∧ (∀ j, j = hi → j < n → p j = true) from ⟨fun j h => by rw [show j = (lo + hi) / 2 by omega]; exact hp, HP.out.2⟩)
        clear hp
        go_wp2_with fail
        go_roundw
        case rel => exact ⟨(lo + hi) / 2 + 1, hi, by go_num, rfl, by omega, by omega, HQ, hbw.trans (hb1.mono hbw.size)⟩
        case measure => simp [intOf]; omega
      · have HQ := Lib.hid (show (∀ j, j + 1 = lo → p j = false) ∧ (∀ j, j = (lo + hi) / 2 → j < n → p j = true) from ⟨HP.out.1, fun j h _ => by rw [h]; exact hp⟩)
        clear hp
        go_wp2_with fail
        go_roundw
        case rel => exact ⟨lo, (lo + hi) / 2, rfl, by go_num, by omega, by omega, HQ, hbw.trans (hb1.mono hbw.size)⟩
        case measure => simp [intOf]; omega
    · obtain rfl : lo = hi := by omega
      go_wp2_with fail
      go_ret
      exact ⟨lo, hin, HP.out.1, HP.out.2, rfl, hbw⟩
set_option maxRecDepth 100000 in
set_option maxHeartbeats 1000000 in
theorem whence1_any (A : Option Addr) (c : Nat) (xs : List Sg) (l cc : Int) (gp gl i : Nat) (w : World) (hi : i < xs.length) (_ : xs.length ≤ 2 ^ 40) (hA : SlIs w A (rowG xs)) (hp : gp < w.heap.size)
    (p0 : w.cell? ⟨gp, 0, none⟩ = some (.int .i64 l)) (p1 : w.cell? ⟨gp, 1, none⟩ = some (.int .i64 cc)) (pl : w.cell? ⟨gl, 0, none⟩ = some (.slice A xs.length c)) :
    Calls Try.prog 53 #[.int .i64 i, .pointer (some ⟨gp, 0, none⟩), .pointer (some ⟨gl, 0, none⟩)] w fun e w' => e = .returned (.bool (pastG xs l cc i)) ∧ Below w.heap.size w w' := by
  obtain ⟨g, off, rfl, hg, h0, h1, _, _⟩ := getG_pos hi hA
  have hx : (i : Int) < (xs.length : Int) := by omega
  have HP := Lib.hid (posLess_any l cc (getG xs i).1 (getG xs i).2.1)
  have HE := Lib.hid (show pastG xs l cc i = lessG l cc (getG xs i).1 (getG xs i).2.1 from rfl)
  generalize (getG xs i).1 = t1 at *
  generalize (getG xs i).2.1 = t2 at *
  generalize lessG l cc t1 t2 = r at *
  clear hA
  go_enter Try.func53, Try.ntmps53
  go_wp2_with fail
  go_region_held3 (fun w' => w'.cell? ⟨gp, 0, none⟩ = some (.int .i64 l) ∧ w'.cell? ⟨gp, 1, none⟩ = some (.int .i64 cc) ∧ w'.cell? ⟨gl, 0, none⟩ = some (.slice (some ⟨g, off, none⟩) xs.length c) ∧ w'.cell? ⟨g, off + i * 4, none⟩ = some (.int .i64 t1) ∧ w'.cell? ⟨g, off + i * 4 + 1, none⟩ = some (.int .i64 t2) ∧ Below w.heap.size w w')
    (first | exact ⟨p0, p1, pl, h0, h1, (Below.refl _ w).drew⟩ | exact ⟨(hb2.cell (p := ⟨gp, 0, none⟩) hp).trans p0, (hb2.cell (p := ⟨gp, 1, none⟩) hp).trans p1, (hb2.cell (p := ⟨gl, 0, none⟩) (cell_ltG pl)).trans pl, (hb2.cell (p := ⟨g, off + i * 4, none⟩) hg).trans h0, (hb2.cell (p := ⟨g, off + i * 4 + 1, none⟩) hg).trans h1, hb2⟩)
    (first | (go_at_call 45; refine (HP.out _).mono ?_; rintro e w2 ⟨rfl, hb2'⟩; have hb2 : Below w.heap.size w w2 := (Below.refl _ w).drew.trans hb2'))
  rename_i hh
  go_wp2
  go_ret
  exact ⟨by rw [HE.out]; rfl, hb2⟩
set_option maxRecDepth 100000 in
set_option maxHeartbeats 2000000 in
theorem whence_any (A : Option Addr) (c : Nat) (xs : List Sg) (l cc : Int) (w : World) (hok : segsOk xs = true) (hA : SlIs w A (rowG xs)) :
    Calls Try.prog 36 #[.slice A xs.length c, .agg #[.int .i64 l, .int .i64 cc]] w fun e w' => e = .returned (lookV (lookG xs l cc)) ∧ Below w.heap.size w w' := by
  have hl := segsOk_len hok
  obtain ⟨W0, hW0⟩ : ∃ W0, W0 = ((w.alloc (.cells #[.slice A xs.length c] 25)).alloc (.cells #[.int .i64 l, .int .i64 cc] 31)).alloc (.cells #[.int .i64 0, .int .i64 0] 31) := ⟨_, rfl⟩
  have hb0 : Below w.heap.size w W0 := by rw [hW0]; exact (((Below.refl _ w).alloc (Nat.le_refl _) _).alloc (by simp) _).alloc (by simp; omega) _
  have hs0 : W0.heap.size = w.heap.size + 1 + 1 + 1 := by rw [hW0]; simp
  have BL : BlkG W0 w.heap.size #[.slice A xs.length c] 25 := by
    rw [hW0]
    exact ((blkG_new w _ _).stay (Below.heap_alloc _ _ _ (by simp))).stay (Below.heap_alloc _ _ _ (by simp; omega))
  have BP : BlkG W0 (w.heap.size + 1) #[.int .i64 l, .int .i64 cc] 31 := by
    have := blkG_new (w.alloc (.cells #[.slice A xs.length c] 25)) #[.int .i64 l, .int .i64 cc] 31
    rw [World.size_alloc] at this
    rw [hW0]
    exact this.stay (Below.heap_alloc _ _ _ (by simp))
  have BO : BlkG W0 (w.heap.size + 1 + 1) #[.int .i64 0, .int .i64 0] 31 := by
    have := blkG_new ((w.alloc (.cells #[.slice A xs.length c] 25)).alloc (.cells #[.int .i64 l, .int .i64 cc] 31)) #[.int .i64 0, .int .i64 0] 31
    rw [World.size_alloc, World.size_alloc] at this
    rw [hW0]
    exact this
  have HA0 := Lib.hid (hA.below hb0)
  have l0 := BL.cell 0
  simp only [List.getElem?_toArray, List.getElem?_cons_zero] at l0
  have HBL := Lib.hid BL
  have HBP := Lib.hid BP
  have HBO := Lib.hid BO
  have HFN : ∀ args w, (callFunc 53 args).run Try.prog w = .ok (.enter 53 args) w := fun args w => by kernel_rfl
  have HS := Lib.hid (search_any (FN := 53) (c1 := .pointer (some ⟨w.heap.size + 1, 0, none⟩)) (c2 := .pointer (some ⟨w.heap.size, 0, none⟩)) xs.length (pastG xs l cc) W0 HFN (by omega) fun i w' hi hb =>
    whence1_any A c xs l cc _ _ i w' hi (by omega) (HA0.out.below hb) (Nat.lt_of_lt_of_le HBP.out.lt hb.size) ((hb.cell (p := ⟨w.heap.size + 1, 0, none⟩) HBP.out.lt).trans (HBP.out.cell 0)) ((hb.cell (p := ⟨w.heap.size + 1, 1, none⟩) HBP.out.lt).trans (HBP.out.cell 1)) ((hb.cell (p := ⟨w.heap.size, 0, none⟩) HBL.out.lt).trans (HBL.out.cell 0)))
  clear hA BL BP BO
  go_enter Try.func36, Try.ntmps36
  go_wp2_with fail
  rw [← hW0]
  clear hW0
  refine HS.out.mono ?_
  rintro e w1 ⟨k, hk, hk1, hk2, rfl, hb1⟩
  have HLK := Lib.hid (look_halves hok hk hk2)
  have hb01 : Below w.heap.size w w1 := hb0.trans (hb1.mono hb0.size)
  have HO1 := Lib.hid (HBO.out.stay (hb1.block _ HBO.out.lt))
  have l1 := (hb1.cell (p := ⟨w.heap.size, 0, none⟩) HBL.out.lt).trans l0
  have p0 := (hb1.cell (p := ⟨w.heap.size + 1, 0, none⟩) HBP.out.lt).trans (HBP.out.cell 0)
  have p1 := (hb1.cell (p := ⟨w.heap.size + 1, 1, none⟩) HBP.out.lt).trans (HBP.out.cell 1)
  simp only [List.getElem?_toArray, List.getElem?_cons_zero, List.getElem?_cons_succ] at p0 p1
  have s0 := HO1.out.cell 0
  have s1 := HO1.out.cell 1
  have f0 := HO1.out.frozen 0
  have f1 := HO1.out.frozen 1
  simp only [List.getElem?_toArray, List.getElem?_cons_zero, List.getElem?_cons_succ] at s0 s1
  have hz1 := hb1.size
  have HA1 := Lib.hid (HA0.out.below hb1)
  clear l0 HBL HBP HBO hk2 HS HFN
  cases k with
  | zero =>
    have e0 : (((0 : Nat) : Int) == 0) = true := by decide
    go_wp2_with fail
    go_quiet (fail)
    go_wp2_with fail
    have P2 := put2 (HO1.out.stay (w' := w1.drewN nq) rfl) (.int .i64 0) (.int .i64 0) (B := w.heap.size) (by omega)
    exact bodyPost_ret (v := .tuple #[.agg #[.int .i64 0, .int .i64 0], .bool false]) (by simp [results, Try.results36, go_sem, P2.1, P2.2.1]) rfl ⟨by rw [HLK.out]; rfl, (hb01.trans ((below_draws _).mono hb01.size)).trans P2.2.2⟩
  | succ k =>
    have hq := hk1 k rfl
    have HT := Lib.hid (fun h => look_there (xs := xs) (l := l) (c := cc) (k := k) hq h)
    have HN := Lib.hid (fun h => look_line hok (l := l) (c := cc) (k := k) (by omega) hq h)
    have e0 : ((k : Int) + 1 == 0) = false := by rw [beq_eq_false_iff_ne]; omega
    have e1 : IntKind.i64.wrap (k : Int) = (k : Int) := IntWalk.i64_in _ (by omega)
    obtain ⟨g, off, rfl, hg, h0, h1, h2, h3⟩ := getG_pos (show k < xs.length by omega) HA1.out
    have hx : (k : Int) < (xs.length : Int) := by omega
    clear hk1 hq
    generalize getG xs k = t at *
    obtain ⟨t1, t2, t3, t4⟩ := t
    simp only at h0 h1 h2 h3 HT HN
    by_cases hline : t1 = l
    · subst hline
      have HT2 := Lib.hid (HT.out rfl)
      have e2 : (t1 != t1) = false := by simp
      clear HT HN
      go_wp2_with fail
      go_quiet (fail)
      go_wp2_with fail
      have P2 := put2 (HO1.out.stay (w' := w1.drewN nq) rfl) (.int .i64 t3) (.int .i64 t4) (B := w.heap.size) (by omega)
      exact bodyPost_ret (v := .tuple #[.agg #[.int .i64 t3, .int .i64 t4], .bool true]) (by simp [results, Try.results36, go_sem, P2.1, P2.2.1]) rfl ⟨by rw [HLK.out, HT2.out]; rfl, (hb01.trans ((below_draws _).mono hb01.size)).trans P2.2.2⟩
    · have HN2 := Lib.hid (HN.out hline)
      have e2 : (t1 != l) = true := by simpa using hline
      clear HT HN hline
      go_wp2_with fail
      go_quiet (fail)
      go_wp2_with fail
      have P2 := put2 (HO1.out.stay (w' := w1.drewN nq) rfl) (.int .i64 0) (.int .i64 0) (B := w.heap.size) (by omega)
      exact bodyPost_ret (v := .tuple #[.agg #[.int .i64 0, .int .i64 0], .bool false]) (by simp [results, Try.results36, go_sem, P2.1, P2.2.1]) rfl ⟨by rw [HLK.out, HN2.out]; rfl, (hb01.trans ((below_draws _).mono hb01.size)).trans P2.2.2⟩
set_option maxRecDepth 100000 in
set_option maxHeartbeats 2000000 in
theorem specMapLook_any (A : Option Addr) (c : Nat) (xs : List Sg) (l cc : Int) (w : World) (hl : xs.length ≤ 2 ^ 40) (hA : SlIs w A (rowG xs)) :
    Calls Try.prog 12 #[.slice A xs.length c, .agg #[.int .i64 l, .int .i64 cc]] w fun e w' => e = .returned (lookV (lookO xs l cc)) ∧ Below w.heap.size w w' := by
  obtain ⟨W0, hW0⟩ : ∃ W0, W0 = (w.alloc (.cells #[.int .i64 l, .int .i64 cc] 31)).alloc (.cells #[.int .i64 0, .int .i64 0] 31) := ⟨_, rfl⟩
  have hb0 : Below w.heap.size w W0 := by rw [hW0]; exact ((Below.refl _ w).alloc (Nat.le_refl _) _).alloc (by simp) _
  have hs0 : W0.heap.size = w.heap.size + 1 + 1 := by rw [hW0]; simp
  have HA0 := Lib.hid (hA.below hb0)
  have HP := Lib.hid (show BlkG W0 w.heap.size #[.int .i64 l, .int .i64 cc] 31 by
    rw [hW0]
    exact (blkG_new w _ _).stay (Below.heap_alloc _ _ _ (by simp)))
  have HO := Lib.hid (show BlkG W0 (w.heap.size + 1) #[.int .i64 0, .int .i64 0] 31 by
    have := blkG_new (w.alloc (.cells #[.int .i64 l, .int .i64 cc] 31)) #[.int .i64 0, .int .i64 0] 31
    rw [World.size_alloc] at this
    rw [hW0]
    exact this)
  have HS := Lib.hid (specSegsOk_any A c xs W0 hl HA0.out)
  have HLK := Lib.hid (fun w' (hb : Below W0.heap.size W0 w') => l9Look_any A c xs l cc w' hl (HA0.out.below hb))
  clear hA
  go_enter Try.func12, Try.ntmps12
  go_wp2_with fail
  rw [← hW0]
  clear hW0
  refine HS.out.mono ?_
  rintro e w1 ⟨rfl, hb1⟩
  have hb01 : Below w.heap.size w w1 := hb0.trans (hb1.mono hb0.size)
  have HO1 := Lib.hid (HO.out.stay (hb1.block _ HO.out.lt))
  have p0 := (hb1.cell (p := ⟨w.heap.size, 0, none⟩) HP.out.lt).trans (HP.out.cell 0)
  have p1 := (hb1.cell (p := ⟨w.heap.size, 1, none⟩) HP.out.lt).trans (HP.out.cell 1)
  have s0 := HO1.out.cell 0
  have s1 := HO1.out.cell 1
  have f0 := HO1.out.frozen 0
  have f1 := HO1.out.frozen 1
  simp only [List.getElem?_toArray, List.getElem?_cons_zero, List.getElem?_cons_succ] at s0 s1 p0 p1
  have hz1 := hb1.size
  cases hok : segsOk xs
  · have HE := Lib.hid (lookO_no (l := l) (c := cc) hok)
    clear hok
    go_wp2_with fail
    have P2 := put2 HO1.out (.int .i64 0) (.int .i64 0) (B := w.heap.size) (by omega)
    exact bodyPost_ret (v := .tuple #[.agg #[.int .i64 0, .int .i64 0], .bool false]) (by simp [results, Try.results12, go_sem, P2.1, P2.2.1]) rfl ⟨by rw [HE.out]; rfl, hb01.trans P2.2.2⟩
  · have HLK1 := Lib.hid (HLK.out w1 hb1)
    have HE := Lib.hid (lookO_ok (l := l) (c := cc) hok)
    clear hok
    cases hlk : lookG xs l cc with
    | none =>
      rw [hlk] at HLK1 HE
      unfold lookV at HLK1
      go_wp2_with fail
      refine HLK1.out.mono ?_
      rintro e w2 ⟨rfl, hb2⟩
      have HO2 := Lib.hid (HO1.out.stay (hb2.block _ HO1.out.lt))
      have s0 := HO2.out.cell 0
      have s1 := HO2.out.cell 1
      have f0 := HO2.out.frozen 0
      have f1 := HO2.out.frozen 1
      simp only [List.getElem?_toArray, List.getElem?_cons_zero, List.getElem?_cons_succ] at s0 s1
      go_wp2_with fail
      have P2 := put2 HO2.out (.int .i64 0) (.int .i64 0) (B := w.heap.size) (by omega)
      exact bodyPost_ret (v := .tuple #[.agg #[.int .i64 0, .int .i64 0], .bool false]) (by simp [results, Try.results12, go_sem, P2.1, P2.2.1]) rfl ⟨by rw [HE.out]; rfl, (hb01.trans (hb2.mono hb01.size)).trans P2.2.2⟩
    | some x =>
      obtain ⟨x1, x2, x3, x4⟩ := x
      rw [hlk] at HLK1 HE
      unfold lookV at HLK1
      go_wp2_with fail
      refine HLK1.out.mono ?_
      rintro e w2 ⟨rfl, hb2⟩
      have HO2 := Lib.hid (HO1.out.stay (hb2.block _ HO1.out.lt))
      have s0 := HO2.out.cell 0
      have s1 := HO2.out.cell 1
      have f0 := HO2.out.frozen 0
      have f1 := HO2.out.frozen 1
      simp only [List.getElem?_toArray, List.getElem?_cons_zero, List.getElem?_cons_succ] at s0 s1
      go_wp2_with fail
      have P2 := put2 HO2.out (.int .i64 x3) (.int .i64 x4) (B := w.heap.size) (by omega)
      exact bodyPost_ret (v := .tuple #[.agg #[.int .i64 x3, .int .i64 x4], .bool true]) (by simp [results, Try.results12, go_sem, P2.1, P2.2.1]) rfl ⟨by rw [HE.out]; rfl, (hb01.trans (hb2.mono hb01.size)).trans P2.2.2⟩
set_option maxRecDepth 100000 in
set_option maxHeartbeats 2000000 in
theorem mapLook_any (A : Option Addr) (c : Nat) (xs : List Sg) (l cc : Int) (w : World) (hl : xs.length ≤ 2 ^ 40) (hA : SlIs w A (rowG xs)) :
    Calls Try.prog 14 #[.slice A xs.length c, .agg #[.int .i64 l, .int .i64 cc]] w fun e w' => e = .returned (lookV (lookO xs l cc)) ∧ Below w.heap.size w w' := by
  obtain ⟨W0, hW0⟩ : ∃ W0, W0 = (w.alloc (.cells #[.int .i64 l, .int .i64 cc] 31)).alloc (.cells #[.int .i64 0, .int .i64 0] 31) := ⟨_, rfl⟩
  have hb0 : Below w.heap.size w W0 := by rw [hW0]; exact ((Below.refl _ w).alloc (Nat.le_refl _) _).alloc (by simp) _
  have hs0 : W0.heap.size = w.heap.size + 1 + 1 := by rw [hW0]; simp
  have HA0 := Lib.hid (hA.below hb0)
  have HP := Lib.hid (show BlkG W0 w.heap.size #[.int .i64 l, .int .i64 cc] 31 by
    rw [hW0]
    exact (blkG_new w _ _).stay (Below.heap_alloc _ _ _ (by simp)))
  have HO := Lib.hid (show BlkG W0 (w.heap.size + 1) #[.int .i64 0, .int .i64 0] 31 by
    have := blkG_new (w.alloc (.cells #[.int .i64 l, .int .i64 cc] 31)) #[.int .i64 0, .int .i64 0] 31
    rw [World.size_alloc] at this
    rw [hW0]
    exact this)
  have HS := Lib.hid (segsOkI_any A c xs W0 hl HA0.out)
  have HLK := Lib.hid (fun w' (hok : segsOk xs = true) (hb : Below W0.heap.size W0 w') => whence_any A c xs l cc w' hok (HA0.out.below hb))
  clear hA
  go_enter Try.func14, Try.ntmps14
  go_wp2_with fail
  rw [← hW0]
  clear hW0
  refine HS.out.mono ?_
  rintro e w1 ⟨rfl, hb1⟩
  have hb01 : Below w.heap.size w w1 := hb0.trans (hb1.mono hb0.size)
  have HO1 := Lib.hid (HO.out.stay (hb1.block _ HO.out.lt))
  have p0 := (hb1.cell (p := ⟨w.heap.size, 0, none⟩) HP.out.lt).trans (HP.out.cell 0)
  have p1 := (hb1.cell (p := ⟨w.heap.size, 1, none⟩) HP.out.lt).trans (HP.out.cell 1)
  have s0 := HO1.out.cell 0
  have s1 := HO1.out.cell 1
  have f0 := HO1.out.frozen 0
  have f1 := HO1.out.frozen 1
  simp only [List.getElem?_toArray, List.getElem?_cons_zero, List.getElem?_cons_succ] at s0 s1 p0 p1
  have hz1 := hb1.size
  cases hok : segsOk xs
  · have HE := Lib.hid (lookO_no (l := l) (c := cc) hok)
    clear hok
    go_wp2_with fail
    have P2 := put2 HO1.out (.int .i64 0) (.int .i64 0) (B := w.heap.size) (by omega)
    exact bodyPost_ret (v := .tuple #[.agg #[.int .i64 0, .int .i64 0], .bool false]) (by simp [results, Try.results14, go_sem, P2.1, P2.2.1]) rfl ⟨by rw [HE.out]; rfl, hb01.trans P2.2.2⟩
  · have HLK1 := Lib.hid (HLK.out w1 hok hb1)
    have HE := Lib.hid (lookO_ok (l := l) (c := cc) hok)
    clear hok
    cases hlk : lookG xs l cc with
    | none =>
      rw [hlk] at HLK1 HE
      unfold lookV at HLK1
      go_wp2_with fail
      refine HLK1.out.mono ?_
      rintro e w2 ⟨rfl, hb2⟩
      have HO2 := Lib.hid (HO1.out.stay (hb2.block _ HO1.out.lt))
      have s0 := HO2.out.cell 0
      have s1 := HO2.out.cell 1
      have f0 := HO2.out.frozen 0
      have f1 := HO2.out.frozen 1
      simp only [List.getElem?_toArray, List.getElem?_cons_zero, List.getElem?_cons_succ] at s0 s1
      go_wp2_with fail
      have P2 := put2 HO2.out (.int .i64 0) (.int .i64 0) (B := w.heap.size) (by omega)
      exact bodyPost_ret (v := .tuple #[.agg #[.int .i64 0, .int .i64 0], .bool false]) (by simp [results, Try.results14, go_sem, P2.1, P2.2.1]) rfl ⟨by rw [HE.out]; rfl, (hb01.trans (hb2.mono hb01.size)).trans P2.2.2⟩
    | some x =>
      obtain ⟨x1, x2, x3, x4⟩ := x
      rw [hlk] at HLK1 HE
      unfold lookV at HLK1
      go_wp2_with fail
      refine HLK1.out.mono ?_
      rintro e w2 ⟨rfl, hb2⟩
      have HO2 := Lib.hid (HO1.out.stay (hb2.block _ HO1.out.lt))
      have s0 := HO2.out.cell 0
      have s1 := HO2.out.cell 1
      have f0 := HO2.out.frozen 0
      have f1 := HO2.out.frozen 1
      simp only [List.getElem?_toArray, List.getElem?_cons_zero, List.getElem?_cons_succ] at s0 s1
      go_wp2_with fail
      have P2 := put2 HO2.out (.int .i64 x3) (.int .i64 x4) (B := w.heap.size) (by omega)
      exact bodyPost_ret (v := .tuple #[.agg #[.int .i64 x3, .int .i64 x4], .bool true]) (by simp [results, Try.results14, go_sem, P2.1, P2.2.1]) rfl ⟨by rw [HE.out]; rfl, (hb01.trans (hb2.mono hb01.size)).trans P2.2.2⟩
end Go.Proofs.Ytdkliboehdohdaa
