/-
  The contract of the program's (*partsLeft).part and partOf: the part of what is ok, for all that can be read.
-/
import Derived.Test.YtabignplhkbcpaaGreatDoorGL
import Derived.Test.YtabignplhkbcpaaGreatDoorImplEx
namespace Go.Proofs.YtabignplhkbcpaaGreatDoor
open Go.RowKit

theorem gb_refl (w : World) (g : Option Nat) : w.grownBy w g := ⟨rfl, rfl, rfl, Nat.le_refl _, fun _ _ _ => rfl⟩
theorem gb_draws {a w : World} {row : Option Nat} (h : a.grownBy w row) (n : Nat) : a.grownBy (w.drewN n) row := ⟨h.os, h.tape, h.output, h.size, h.block⟩
theorem gb_set {a w : World} {g : Nat} (h : a.grownBy w (some g)) (i : Nat) (v : Value) : a.grownBy (w.setCell ⟨g, i, none⟩ v) (some g) :=
  ⟨h.os, h.tape, h.output, Nat.le_trans h.size (by simp [World.setCell]), fun k hk hne => (Below.heap_setCell w ⟨g, i, none⟩ v k (fun e => hne (by rw [e]))).trans (h.block k hk hne)⟩
theorem gb_alloc {a w : World} {row : Option Nat} (h : a.grownBy w row) (o : Obj) : a.grownBy (w.alloc o) row :=
  ⟨h.os, h.tape, h.output, Nat.le_trans h.size (by simp), fun i hi hne => (Below.heap_alloc w o i (Nat.lt_of_lt_of_le hi h.size)).trans (h.block i hi hne)⟩
theorem gb_trans {a b c : World} {row : Option Nat} (h : a.grownBy b row) (k : b.grownBy c row) : a.grownBy c row :=
  ⟨k.os.trans h.os, k.tape.trans h.tape, k.output.trans h.output, Nat.le_trans h.size k.size, fun i hi hne => (k.block i (Nat.lt_of_lt_of_le hi h.size) hne).trans (h.block i hi hne)⟩
theorem gb_of_below {w w' : World} {row : Option Nat} (h : Below w.heap.size w w') : w.grownBy w' row := ⟨h.os, h.tape, h.output, h.size, fun i hi _ => h.block i hi⟩
theorem gb_below {w w' : World} {B g : Nat} (h : w.grownBy w' (some g)) (hB : B ≤ g) (hw : B ≤ w.heap.size) : Below B w w' :=
  ⟨h.os, h.tape, h.output, h.size, fun k hk => h.block k (by omega) (fun e => by injection e with e; omega)⟩
theorem gb_cell {w w' : World} {g : Nat} (h : w.grownBy w' (some g)) {p : Addr} (hp : p.block < w.heap.size) (hne : p.block ≠ g) : w'.cell? p = w.cell? p :=
  World.cell?_of_block (h.block p.block hp (fun e => hne (by injection e)))

/-- How many parts are counted at most. -/
def dn : Nat → Int
  | 0 => 1
  | d + 1 => 2 * dn d + 1
theorem dn_succ (d : Nat) : dn (d + 1) = 2 * dn d + 1 := rfl
theorem dn_pos (d : Nat) : 1 ≤ dn d := by
  induction d with
  | zero => simp [dn]
  | succ d ih => rw [dn_succ]; omega
theorem form_none {d : Nat} {e : Ex} (h : formB d e = false) : ptOf d e = none := by
  unfold formB at h
  cases hp : ptOf d e
  · rfl
  · rw [hp] at h; cases h
theorem two_none {d : Nat} {s : ByteArray} {x y : Ex} (h : ptOf d x = none ∨ ptOf d y = none) : ptOf (d + 1) (.mk 3 0 s [x, y]) = none := by
  rw [ptOf]
  simp only [Ex.kind, Ex.n, Ex.s, Ex.kids, ptStep, twoOf]
  rcases h with h | h
  · simp [h]
  · cases ptOf d x <;> simp [h]
theorem two_some {d : Nat} {s : ByteArray} {x y : Ex} {p q : Pt} (hs : ¬ hold s = 0) (h1 : ptOf d x = some p) (h2 : ptOf d y = some q) : ptOf (d + 1) (.mk 3 0 s [x, y]) = some (.two s p q) := by
  rw [ptOf]
  simp [Ex.kind, Ex.n, Ex.s, Ex.kids, ptStep, twoOf, hs, h1, h2]
theorem as_none {d : Nat} {s : ByteArray} {x : Ex} (h : ptOf d x = none) : ptOf (d + 1) (.mk 4 0 s [x]) = none := by
  rw [ptOf]
  simp [Ex.kind, Ex.n, Ex.s, Ex.kids, ptStep, asOf, h]
theorem as_some {d : Nat} {s : ByteArray} {x : Ex} {p : Pt} (hs : typeB s = true) (h1 : ptOf d x = some p) : ptOf (d + 1) (.mk 4 0 s [x]) = some (.as s p) := by
  rw [ptOf]
  simp [Ex.kind, Ex.n, Ex.s, Ex.kids, ptStep, asOf, hs, h1]
theorem bx_draws {W : World} {B : Nat} {t : TypeId} {v : Value} (h : Boxed W B t v) (n : Nat) : Boxed (W.drewN n) B t v := h
theorem bx_keeps {W W' : World} {B : Nat} {t : TypeId} {v : Value} (h : Boxed W B t v) (hb : Below W.heap.size W W') : Boxed W' B t v := (hb.block B h.lt).trans h

/-- The value of an interface. -/
def IfV (v : Value) : Prop := v = .nilIface ∨ ∃ t u, v = .iface t u
theorem partV_if (p : Pt) : ∃ t u, partV p = .iface t u := by cases p <;> exact ⟨_, _, rfl⟩
/-- What it tells: a part, and whether it is ok; the counter has gone down. -/
def Parts (g d : Nat) (x : Ex) (n : Int) (w : World) (e : Ending) (w' : World) : Prop :=
  ∃ (v : Value) (ok : Bool) (n' : Int), e = .returned (.tuple #[v, .bool ok]) ∧ IfV v ∧ Boxed w' g 109 (.int .i64 n') ∧ w.grownBy w' (some g) ∧ n' ≤ n - 1 ∧ n - dn d ≤ n' ∧
    (ok = true → ∃ p, ptOf d x = some p ∧ v = partV p ∧ n' = n - p.nodes ∧ 0 ≤ n') ∧ (ok = false → ptOf d x = none ∨ n < x.nodes)

theorem parts_ok {g d : Nat} {x : Ex} {n n' : Int} {w w' : World} {p : Pt} (hb : Boxed w' g 109 (.int .i64 n')) (hg : w.grownBy w' (some g)) (h1 : n' ≤ n - 1) (h2 : n - dn d ≤ n') (hp : ptOf d x = some p) (hn : n' = n - p.nodes) (h0 : 0 ≤ n') :
    Parts g d x n w (.returned (.tuple #[partV p, .bool true])) w' := ⟨_, _, n', rfl, .inr (partV_if p), hb, hg, h1, h2, fun _ => ⟨p, hp, rfl, hn, h0⟩, fun h => by cases h⟩
theorem parts_no {g d : Nat} {x : Ex} {n n' : Int} {w w' : World} {v : Value} (hb : Boxed w' g 109 (.int .i64 n')) (hg : w.grownBy w' (some g)) (h1 : n' ≤ n - 1) (h2 : n - dn d ≤ n') (hp : ptOf d x = none ∨ n < x.nodes) (hv : IfV v) :
    Parts g d x n w (.returned (.tuple #[v, .bool false])) w' := ⟨_, _, n', rfl, hv, hb, hg, h1, h2, fun h => by (cases h), fun _ => hp⟩

set_option maxRecDepth 100000 in
set_option maxHeartbeats 4000000 in
theorem part_any : ∀ (d a : Nat) (k n : Int) (s : ByteArray) (ks : List Ex) (A : Option Addr) (c B g : Nat) (m : Int) (w : World), a + d = 5 → KidsAt w B A ks → ks.length ≤ c → B ≤ g → Boxed w g 109 (.int .i64 m) → m ≤ 1000 → dn d ≤ m + 1000 → s.size ≤ 2 ^ 40 → Ex.wts ks ≤ 2 ^ 40 →
    Calls Tryz.prog 66 #[.pointer (some ⟨g, 0, none⟩), .agg #[.int .i64 k, .int .i64 n, .string s, .slice A ks.length c], .int .i64 (a : Int)] w (Parts g d (.mk k n s ks) m w) := by
  intro d
  induction d with
  | zero =>
    intro a k n s ks A c B g m w had hA hc hB hg hm1 hm2 hs hk
    obtain rfl : a = 5 := by omega
    have hl : ks.length ≤ 2 ^ 40 := Nat.le_trans (Ex.wts_length ks) hk
    have hm3 : -1000 ≤ m := by have := dn_pos 0; omega
    have hc0 := hg.cell
    have hf0 := hg.frozen
    have hlt := hg.lt
    have hc1 := (hg.set (.int .i64 (m - 1))).cell
    have HW := Lib.hid (show w.grownBy ((w.setCell ⟨g, 0, none⟩ (.int .i64 (m - 1))).alloc (.cells #[.int .i64 k, .int .i64 n, .string s, .slice A ks.length c] 34)) (some g) from gb_alloc (gb_set (gb_refl _ _) 0 _) _)
    have HX := Lib.hid ((hg.set (.int .i64 (m - 1))).alloc (.cells #[.int .i64 k, .int .i64 n, .string s, .slice A ks.length c] 34))
    clear hA hg
    by_cases h0 : m - 1 < 0
    · have q : decide (m - 1 < 0) = true := by simpa using h0
      go_enter Tryz.func66, Tryz.ntmps66
      go_wp2_with fail
      go_ret2
      exact parts_no HX.out HW.out (by omega) (by simp [dn]) (.inl rfl) (.inl rfl)
    · have q : decide (m - 1 < 0) = false := by simpa using h0
      go_enter Tryz.func66, Tryz.ntmps66
      go_wp2_with fail
      go_ret2
      exact parts_no HX.out HW.out (by omega) (by simp [dn]) (.inl rfl) (.inl rfl)
  | succ d ih =>
    intro a k n s ks A c B g m w had hA hc hB hg hm1 hm2 hs hk
    have hl : ks.length ≤ 2 ^ 40 := Nat.le_trans (Ex.wts_length ks) hk
    have hm3 : -1000 ≤ m := by have := dn_pos (d + 1); omega
    have hc0 := hg.cell
    have hf0 := hg.frozen
    have hlt := hg.lt
    have hc1 := (hg.set (.int .i64 (m - 1))).cell
    obtain ⟨W1, hW1⟩ : ∃ W1, W1 = (w.setCell ⟨g, 0, none⟩ (.int .i64 (m - 1))).alloc (.cells #[.int .i64 k, .int .i64 n, .string s, .slice A ks.length c] 34) := ⟨_, rfl⟩
    have hgW : w.grownBy W1 (some g) := by rw [hW1]; exact gb_alloc (gb_set (gb_refl _ _) 0 _) _
    have hX : Boxed W1 g 109 (.int .i64 (m - 1)) := by rw [hW1]; exact (hg.set (.int .i64 (m - 1))).alloc _
    have hsS : (w.setCell ⟨g, 0, none⟩ (.int .i64 (m - 1))).heap.size = w.heap.size := by simp
    have hsz : W1.heap.size = w.heap.size + 1 := by rw [hW1]; simp
    have dd : ∀ j v, #[Value.int .i64 k, .int .i64 n, .string s, .slice A ks.length c][j]? = some v → W1.cell? ⟨w.heap.size, j, none⟩ = some v := by
      intro j v hv
      have := cell_made4 (w.setCell ⟨g, 0, none⟩ (.int .i64 (m - 1))) _ 34 j v hv
      rw [hsS, ← hW1] at this
      exact this
    have d0 := dd 0 _ rfl
    have d1 := dd 1 _ rfl
    have d2 := dd 2 _ rfl
    have d3 := dd 3 _ rfl
    have HA := Lib.hid (show KidsAt W1 B A ks from hA.keep (gb_below hgW hB (by omega)))
    have HI := Lib.hid ih
    have HF := Lib.hid (form_step d k n s ks)
    clear hA hg ih dd hsS
    by_cases h0 : m - 1 < 0
    · have q : decide (m - 1 < 0) = true := by simpa using h0
      go_enter Tryz.func66, Tryz.ntmps66
      go_wp2_with fail
      rw [← hW1]
      go_ret2
      exact parts_no hX hgW (by omega) (by have := dn_pos d; rw [dn_succ]; omega) (.inr (by simp only [Ex.nodes]; omega)) (.inl rfl)
    have q : decide (m - 1 < 0) = false := by simpa using h0
    have qa : decide ((5 : Int) ≤ (a : Int)) = false := by simp; omega
    have qa2 : ¬ ((5 : Int) ≤ (a : Int)) := by omega
    by_cases h1 : k = 1
    · subst h1
      by_cases c0 : 0 ≤ n
      · have q0 : decide (0 ≤ n) = true := by simpa using c0
        by_cases c1 : n ≤ 1000000
        · have q1 : decide (n ≤ 1000000) = true := by simpa using c1
          by_cases c2 : s = ByteArray.empty
          · subst c2
            by_cases hk0 : ks.length = 0
            · have q2 : ((ks.length : Int) == 0) = true := by rw [beq_iff_eq]; omega
              have HP := Lib.hid (show ptOf (d + 1) (.mk 1 n ByteArray.empty ks) = some (.num n) by rw [List.eq_nil_of_length_eq_zero hk0]; simp [ptOf, ptStep, Ex.kind, Ex.n, Ex.s, Ex.kids, c0, c1])
              clear hk0
              go_enter Tryz.func66, Tryz.ntmps66
              go_wp2_with fail
              rw [← hW1]
              clear hW1
              go_quiet (fail)
              go_wp2_with fail
              go_ret2
              exact parts_ok (p := .num n) (bx_draws hX nq) (gb_draws hgW nq) (by omega) (by have := dn_pos d; rw [dn_succ]; omega) HP.out (by simp [Pt.nodes]) (by omega)
            · have q2 : ((ks.length : Int) == 0) = false := by rw [beq_eq_false_iff_ne]; omega
              have HH := Lib.hid (show decide (headOk 1 n ByteArray.empty = some ks.length) = false by simp [headOk, c0, c1]; omega)
              clear hk0
              go_enter Tryz.func66, Tryz.ntmps66
              go_wp2_with fail
              rw [← hW1]
              clear hW1
              go_quiet (fail)
              go_wp2_with fail
              go_ret2
              exact parts_no (bx_draws hX nq) (gb_draws hgW nq) (by omega) (by have := dn_pos d; rw [dn_succ]; omega) (.inl (form_none (by rw [HF.out, HH.out]; rfl))) (by first | exact .inl rfl | exact .inr ⟨_, _, rfl⟩)
          · have q2 : (s.toList == []) = false := by rw [isS, decide_eq_false_iff_not]; exact c2
            have HH := Lib.hid (show decide (headOk 1 n s = some ks.length) = false by simp [headOk, c2])
            clear c2
            go_enter Tryz.func66, Tryz.ntmps66
            go_wp2_with fail
            rw [← hW1]
            clear hW1
            go_quiet (fail)
            go_wp2_with fail
            go_ret2
            exact parts_no (bx_draws hX nq) (gb_draws hgW nq) (by omega) (by have := dn_pos d; rw [dn_succ]; omega) (.inl (form_none (by rw [HF.out, HH.out]; rfl))) (by first | exact .inl rfl | exact .inr ⟨_, _, rfl⟩)
        · have q1 : decide (n ≤ 1000000) = false := by simpa using c1
          have HH := Lib.hid (show decide (headOk 1 n s = some ks.length) = false by simp [headOk, c1])
          go_enter Tryz.func66, Tryz.ntmps66
          go_wp2_with fail
          rw [← hW1]
          clear hW1
          go_quiet (fail)
          go_wp2_with fail
          go_ret2
          exact parts_no (bx_draws hX nq) (gb_draws hgW nq) (by omega) (by have := dn_pos d; rw [dn_succ]; omega) (.inl (form_none (by rw [HF.out, HH.out]; rfl))) (by first | exact .inl rfl | exact .inr ⟨_, _, rfl⟩)
      · have q0 : decide (0 ≤ n) = false := by simpa using c0
        have HH := Lib.hid (show decide (headOk 1 n s = some ks.length) = false by simp [headOk, c0])
        go_enter Tryz.func66, Tryz.ntmps66
        go_wp2_with fail
        rw [← hW1]
        clear hW1
        go_quiet (fail)
        go_wp2_with fail
        go_ret2
        exact parts_no (bx_draws hX nq) (gb_draws hgW nq) (by omega) (by have := dn_pos d; rw [dn_succ]; omega) (.inl (form_none (by rw [HF.out, HH.out]; rfl))) (by first | exact .inl rfl | exact .inr ⟨_, _, rfl⟩)
    · have e1 : (k == 1) = false := by rw [beq_eq_false_iff_ne]; exact h1
      by_cases h2 : k = 2
      · subst h2
        by_cases c0 : n = 0
        · subst c0
          have HN := Lib.hid (fun W => nameOk_any s W hs)
          cases hb : nameB s
          · rw [hb] at HN
            have HH := Lib.hid (show decide (headOk 2 0 s = some ks.length) = false by simp [headOk, hb])
            clear hb
            go_enter Tryz.func66, Tryz.ntmps66
            go_wp2_with fail
            rw [← hW1]
            clear hW1
            refine wp_region_noPanic ?_
            refine wp_region_held_drew (S := fun w' => w'.cell? ⟨w.heap.size, 1, none⟩ = some (.int .i64 0) ∧ w'.cell? ⟨w.heap.size, 2, none⟩ = some (.string s) ∧ w'.cell? ⟨w.heap.size, 3, none⟩ = some (.slice A ks.length c) ∧ Below W1.heap.size W1 w') (by kernel_rfl) (⟨d1, d2, d3, (Below.refl _ W1).drew⟩) (fun hHeld => ?_)
            refine wpAnyH_take (i := 0) (v := ?valF0) rfl (by kernel_rfl) (by kernel_rfl) (by kernel_rfl) (fun _ _ _ h => h) (Or.inl ⟨by rfl, ?yieF0⟩) (by assumption) ?resF0
            case yieF0 =>
              intro w hSw
              try dsimp only at hSw
              go_simp
              try with_reducible rfl
            try simp only [Act.put, List.setIfInBounds_toArray, List.set_cons_zero, List.set_cons_succ, List.getElem_toArray, List.getElem_cons_zero]
            refine wpAnyH_take (i := 1) (v := ?valF1) rfl (by kernel_rfl) (by kernel_rfl) (by kernel_rfl) (fun _ _ _ h => h) (Or.inl ⟨by rfl, ?yieF1⟩) (by assumption) ?resF1
            case yieF1 =>
              intro w hSw
              try dsimp only at hSw
              go_simp
              try with_reducible rfl
            try simp only [Act.put, List.setIfInBounds_toArray, List.set_cons_zero, List.set_cons_succ, List.getElem_toArray, List.getElem_cons_zero, List.getElem_cons_succ]
            refine wpAnyH_take (i := 2) (v := ?valF2) rfl (by kernel_rfl) (by kernel_rfl) (by kernel_rfl) (fun _ _ _ h => h) (Or.inl ⟨by rfl, ?yieF2⟩) (by assumption) ?resF2
            case yieF2 =>
              intro w hSw
              try dsimp only at hSw
              go_simp
              try with_reducible rfl
            try simp only [Act.put, List.setIfInBounds_toArray, List.set_cons_zero, List.set_cons_succ, List.getElem_toArray, List.getElem_cons_zero, List.getElem_cons_succ]
            refine wpAnyH_take (i := 3) (v := ?valF3) rfl (by kernel_rfl) (by kernel_rfl) (by kernel_rfl) (fun _ _ _ h => h) (Or.inl ⟨by rfl, ?yieF3⟩) (by assumption) ?resF3
            case yieF3 =>
              intro w hSw
              try dsimp only at hSw
              go_simp
              try with_reducible rfl
            try simp only [Act.put, List.setIfInBounds_toArray, List.set_cons_zero, List.set_cons_succ, List.getElem_toArray, List.getElem_cons_zero, List.getElem_cons_succ]
            refine wpAnyH_take (i := 4) (v := ?valF4) rfl (by kernel_rfl) (by kernel_rfl) (by kernel_rfl) (fun _ _ _ h => h) (Or.inl ⟨by rfl, ?yieF4⟩) (by assumption) ?resF4
            case yieF4 =>
              intro w hSw
              try dsimp only at hSw
              go_simp
              try with_reducible rfl
            try simp only [Act.put, List.setIfInBounds_toArray, List.set_cons_zero, List.set_cons_succ, List.getElem_toArray, List.getElem_cons_zero, List.getElem_cons_succ]
            refine wpAnyH_take (i := 5) (v := ?valF5) rfl (by kernel_rfl) (by kernel_rfl) (by kernel_rfl) (fun _ _ _ h => h) (Or.inl ⟨by rfl, ?yieF5⟩) (by assumption) ?resF5
            case yieF5 =>
              intro w hSw
              try dsimp only at hSw
              go_simp
              try with_reducible rfl
            try simp only [Act.put, List.setIfInBounds_toArray, List.set_cons_zero, List.set_cons_succ, List.getElem_toArray, List.getElem_cons_zero, List.getElem_cons_succ]
            refine wpAnyH_take (i := 6) (v := ?valF6) rfl (by kernel_rfl) (by kernel_rfl) (by kernel_rfl) (fun _ _ _ h => h) (Or.inl ⟨by rfl, ?yieF6⟩) (by assumption) ?resF6
            case yieF6 =>
              intro w hSw
              try dsimp only at hSw
              go_simp
              try with_reducible rfl
            try simp only [Act.put, List.setIfInBounds_toArray, List.set_cons_zero, List.set_cons_succ, List.getElem_toArray, List.getElem_cons_zero, List.getElem_cons_succ]
            refine wpAnyH_take (i := 7) (v := ?valF7) rfl (by kernel_rfl) (by kernel_rfl) (by kernel_rfl) (fun _ _ _ h => h) (Or.inl ⟨by rfl, ?yieF7⟩) (by assumption) ?resF7
            case yieF7 =>
              intro w hSw
              try dsimp only at hSw
              go_simp
              try with_reducible rfl
            try simp only [Act.put, List.setIfInBounds_toArray, List.set_cons_zero, List.set_cons_succ, List.getElem_toArray, List.getElem_cons_zero, List.getElem_cons_succ]
            refine wpAnyH_take (i := 8) (v := ?valF8) rfl (by kernel_rfl) (by kernel_rfl) (by kernel_rfl) (fun _ _ _ h => h) (Or.inl ⟨by rfl, ?yieF8⟩) (by assumption) ?resF8
            case yieF8 =>
              intro w hSw
              try dsimp only at hSw
              go_simp
              try with_reducible rfl
            try simp only [Act.put, List.setIfInBounds_toArray, List.set_cons_zero, List.set_cons_succ, List.getElem_toArray, List.getElem_cons_zero, List.getElem_cons_succ]
            refine wpAnyH_take (i := 9) (v := ?valF9) rfl (by kernel_rfl) (by kernel_rfl) (by kernel_rfl) (fun _ _ _ h => h) (Or.inl ⟨by rfl, ?yieF9⟩) (by assumption) ?resF9
            case yieF9 =>
              intro w hSw
              try dsimp only at hSw
              go_simp
              try with_reducible rfl
            try simp only [Act.put, List.setIfInBounds_toArray, List.set_cons_zero, List.set_cons_succ, List.getElem_toArray, List.getElem_cons_zero, List.getElem_cons_succ]
            refine wpAnyH_ready (rs := [10]) (by kernel_rfl) (by simp) ?_
            refine AllReadyH.cons rfl (fun K hK => ?_) AllReadyH.nil
            go_simp
            with_reducible refine (HN.out _).mono ?_
            rintro e w' ⟨rfl, hb⟩
            go_wp2_with fail
            refine hK.out _ _ (⟨(hb.cell (p := ⟨w.heap.size, 1, none⟩) (by have := hHeld.2.2.2.size; show w.heap.size < _; omega)).trans hHeld.1, (hb.cell (p := ⟨w.heap.size, 2, none⟩) (by have := hHeld.2.2.2.size; show w.heap.size < _; omega)).trans hHeld.2.1, (hb.cell (p := ⟨w.heap.size, 3, none⟩) (by have := hHeld.2.2.2.size; show w.heap.size < _; omega)).trans hHeld.2.2.1, hHeld.2.2.2.trans (hb.mono hHeld.2.2.2.size)⟩) (fun hHeld => ?_)
            clear hK K hb
            try simp only [Act.put, List.setIfInBounds_toArray, List.set_cons_zero, List.set_cons_succ, List.getElem_toArray, List.getElem_cons_zero, List.getElem_cons_succ]
            refine wpAnyH_take (i := 11) (v := ?valF11) rfl (by kernel_rfl) (by kernel_rfl) (by kernel_rfl) (fun _ _ _ h => h) (Or.inl ⟨by rfl, ?yieF11⟩) (by assumption) ?resF11
            case yieF11 =>
              intro w hSw
              try dsimp only at hSw
              go_simp
              try with_reducible rfl
            try simp only [Act.put, List.setIfInBounds_toArray, List.set_cons_zero, List.set_cons_succ, List.getElem_toArray, List.getElem_cons_zero, List.getElem_cons_succ]
            refine wpAnyH_take (i := 12) (v := ?valF12) rfl (by kernel_rfl) (by kernel_rfl) (by kernel_rfl) (fun _ _ _ h => h) (Or.inl ⟨by rfl, ?yieF12⟩) (by assumption) ?resF12
            case yieF12 =>
              intro w hSw
              try dsimp only at hSw
              go_simp
              try with_reducible rfl
            try simp only [Act.put, List.setIfInBounds_toArray, List.set_cons_zero, List.set_cons_succ, List.getElem_toArray, List.getElem_cons_zero, List.getElem_cons_succ]
            refine wpAnyH_take (i := 13) (v := undef) rfl (by kernel_rfl) (by kernel_rfl) (by kernel_rfl) (fun _ _ _ h => h) (Or.inr ⟨by rfl, rfl⟩) (by assumption) ?_
            try simp only [Act.put, List.setIfInBounds_toArray, List.set_cons_zero, List.set_cons_succ, List.getElem_toArray, List.getElem_cons_zero, List.getElem_cons_succ]
            refine wpAnyH_take (i := 14) (v := undef) rfl (by kernel_rfl) (by kernel_rfl) (by kernel_rfl) (fun _ _ _ h => h) (Or.inr ⟨by rfl, rfl⟩) (by assumption) ?_
            try simp only [Act.put, List.setIfInBounds_toArray, List.set_cons_zero, List.set_cons_succ, List.getElem_toArray, List.getElem_cons_zero, List.getElem_cons_succ]
            refine wpAnyH_take (i := 15) (v := undef) rfl (by kernel_rfl) (by kernel_rfl) (by kernel_rfl) (fun _ _ _ h => h) (Or.inr ⟨by rfl, rfl⟩) (by assumption) ?_
            try simp only [Act.put, List.setIfInBounds_toArray, List.set_cons_zero, List.set_cons_succ, List.getElem_toArray, List.getElem_cons_zero, List.getElem_cons_succ]
            refine wpAnyH_take (i := 16) (v := undef) rfl (by kernel_rfl) (by kernel_rfl) (by kernel_rfl) (fun _ _ _ h => h) (Or.inr ⟨by rfl, rfl⟩) (by assumption) ?_
            try simp only [Act.put, List.setIfInBounds_toArray, List.set_cons_zero, List.set_cons_succ, List.getElem_toArray, List.getElem_cons_zero, List.getElem_cons_succ]
            refine wpAnyH_take (i := 17) (v := ?valF17) rfl (by kernel_rfl) (by kernel_rfl) (by kernel_rfl) (fun _ _ _ h => h) (Or.inl ⟨by rfl, ?yieF17⟩) (by assumption) ?resF17
            case yieF17 =>
              intro w hSw
              try dsimp only at hSw
              go_simp
              try with_reducible rfl
            try simp only [Act.put, List.setIfInBounds_toArray, List.set_cons_zero, List.set_cons_succ, List.getElem_toArray, List.getElem_cons_zero, List.getElem_cons_succ]
            refine wpAnyH_take (i := 18) (v := ?valF18) rfl (by kernel_rfl) (by kernel_rfl) (by kernel_rfl) (fun _ _ _ h => h) (Or.inl ⟨by rfl, ?yieF18⟩) (by assumption) ?resF18
            case yieF18 =>
              intro w hSw
              try dsimp only at hSw
              go_simp
              try with_reducible rfl
            try simp only [Act.put, List.setIfInBounds_toArray, List.set_cons_zero, List.set_cons_succ, List.getElem_toArray, List.getElem_cons_zero, List.getElem_cons_succ]
            refine wpAnyH_take (i := 19) (v := ?valF19) rfl (by kernel_rfl) (by kernel_rfl) (by kernel_rfl) (fun _ _ _ h => h) (Or.inl ⟨by rfl, ?yieF19⟩) (by assumption) ?resF19
            case yieF19 =>
              intro w hSw
              try dsimp only at hSw
              go_simp
              try with_reducible rfl
            try simp only [Act.put, List.setIfInBounds_toArray, List.set_cons_zero, List.set_cons_succ, List.getElem_toArray, List.getElem_cons_zero, List.getElem_cons_succ]
            refine wpAnyH_done (by kernel_rfl) ?_ _
            refine NoPanic.normal ?_
            go_wp2_with fail
            go_ret2
            exact parts_no (bx_keeps hX hHeld.2.2.2) (gb_trans hgW (gb_of_below hHeld.2.2.2)) (by omega) (by have := dn_pos d; rw [dn_succ]; omega) (.inl (form_none (by rw [HF.out, HH.out]; rfl))) (by first | exact .inl rfl | exact .inr ⟨_, _, rfl⟩)
          · rw [hb] at HN
            by_cases hk0 : ks.length = 0
            · have q2 : ((ks.length : Int) == 0) = true := by rw [beq_iff_eq]; omega
              have HP := Lib.hid (show ptOf (d + 1) (.mk 2 0 s ks) = some (.name s) by rw [List.eq_nil_of_length_eq_zero hk0]; simp [ptOf, ptStep, Ex.kind, Ex.n, Ex.s, Ex.kids, hb])
              clear hk0 hb
              go_enter Tryz.func66, Tryz.ntmps66
              go_wp2_with fail
              rw [← hW1]
              clear hW1
              go_region_held3 (fun w' => w'.cell? ⟨w.heap.size, 1, none⟩ = some (.int .i64 0) ∧ w'.cell? ⟨w.heap.size, 2, none⟩ = some (.string s) ∧ w'.cell? ⟨w.heap.size, 3, none⟩ = some (.slice A ks.length c) ∧ Below W1.heap.size W1 w')
                (first | exact ⟨d1, d2, d3, (Below.refl _ W1).drew⟩ | exact ⟨(hb2.cell (p := ⟨w.heap.size, 1, none⟩) (by show w.heap.size < _; omega)).trans d1, (hb2.cell (p := ⟨w.heap.size, 2, none⟩) (by show w.heap.size < _; omega)).trans d2, (hb2.cell (p := ⟨w.heap.size, 3, none⟩) (by show w.heap.size < _; omega)).trans d3, hb2⟩)
                (first | (go_at_call 49; refine (HN.out _).mono ?_; rintro e w2 ⟨rfl, hb2'⟩; have hb2 : Below W1.heap.size W1 w2 := (Below.refl _ W1).drew.trans hb2'))
              rename_i hh
              go_wp2_with fail
              go_ret2
              exact parts_ok (p := .name s) (bx_keeps hX hb2) (gb_trans hgW (gb_of_below hb2)) (by omega) (by have := dn_pos d; rw [dn_succ]; omega) HP.out (by simp [Pt.nodes]) (by omega)
            · have q2 : ((ks.length : Int) == 0) = false := by rw [beq_eq_false_iff_ne]; omega
              have HH := Lib.hid (show decide (headOk 2 0 s = some ks.length) = false by simp [headOk, hb]; omega)
              clear hk0 hb
              go_enter Tryz.func66, Tryz.ntmps66
              go_wp2_with fail
              rw [← hW1]
              clear hW1
              go_region_held3 (fun w' => w'.cell? ⟨w.heap.size, 1, none⟩ = some (.int .i64 0) ∧ w'.cell? ⟨w.heap.size, 2, none⟩ = some (.string s) ∧ w'.cell? ⟨w.heap.size, 3, none⟩ = some (.slice A ks.length c) ∧ Below W1.heap.size W1 w')
                (first | exact ⟨d1, d2, d3, (Below.refl _ W1).drew⟩ | exact ⟨(hb2.cell (p := ⟨w.heap.size, 1, none⟩) (by show w.heap.size < _; omega)).trans d1, (hb2.cell (p := ⟨w.heap.size, 2, none⟩) (by show w.heap.size < _; omega)).trans d2, (hb2.cell (p := ⟨w.heap.size, 3, none⟩) (by show w.heap.size < _; omega)).trans d3, hb2⟩)
                (first | (go_at_call 49; refine (HN.out _).mono ?_; rintro e w2 ⟨rfl, hb2'⟩; have hb2 : Below W1.heap.size W1 w2 := (Below.refl _ W1).drew.trans hb2'))
              rename_i hh
              go_wp2_with fail
              go_ret2
              exact parts_no (bx_keeps hX hb2) (gb_trans hgW (gb_of_below hb2)) (by omega) (by have := dn_pos d; rw [dn_succ]; omega) (.inl (form_none (by rw [HF.out, HH.out]; rfl))) (by first | exact .inl rfl | exact .inr ⟨_, _, rfl⟩)
        · have q0 : (n == 0) = false := by rw [beq_eq_false_iff_ne]; exact c0
          have HH := Lib.hid (show decide (headOk 2 n s = some ks.length) = false by simp [headOk, c0])
          go_enter Tryz.func66, Tryz.ntmps66
          go_wp2_with fail
          rw [← hW1]
          clear hW1
          go_quiet (fail)
          go_wp2_with fail
          go_ret2
          exact parts_no (bx_draws hX nq) (gb_draws hgW nq) (by omega) (by have := dn_pos d; rw [dn_succ]; omega) (.inl (form_none (by rw [HF.out, HH.out]; rfl))) (by first | exact .inl rfl | exact .inr ⟨_, _, rfl⟩)
      · have e2 : (k == 2) = false := by rw [beq_eq_false_iff_ne]; exact h2
        by_cases h3 : k = 3
        · subst h3
          by_cases c0 : n = 0
          · subst c0
            have q0 : ((0 : Int) != 0) = false := rfl
            by_cases ch : hold s = 0
            · have HM := Lib.hid (fun W => markHold_any s W)
              rw [ch] at HM
              have HH := Lib.hid (show decide (headOk 3 0 s = some ks.length) = false by simp [headOk, ch])
              clear ch
              go_enter Tryz.func66, Tryz.ntmps66
              go_wp2_with fail
              rw [← hW1]
              clear hW1
              refine (HM.out _).mono ?_
              rintro e w1 ⟨rfl, rfl⟩
              go_wp2_with fail
              go_ret2
              exact parts_no hX hgW (by omega) (by have := dn_pos d; rw [dn_succ]; omega) (.inl (form_none (by rw [HF.out, HH.out]; rfl))) (by first | exact .inl rfl | exact .inr ⟨_, _, rfl⟩)
            · have HM := Lib.hid (fun W => markHold_any s W)
              have qh : ((hold s : Int) == 0) = false := by rw [beq_eq_false_iff_ne]; omega
              by_cases hk0 : ks.length = 2
              · have HC := Lib.hid ch
                obtain ⟨x, y, rfl⟩ : ∃ x y, ks = [x, y] := by
                  match ks, hk0 with
                  | [x, y], _ => exact ⟨x, y, rfl⟩
                obtain ⟨xk, xn, xs, xks⟩ := x
                obtain ⟨yk, yn, ys, yks⟩ := y
                simp only [Ex.wts, Ex.wt] at hk
                simp only [List.length_cons, List.length_nil, Nat.zero_add, Nat.reduceAdd] at hW1 d3 hc hl ⊢
                obtain ⟨g0, off, D0, cc0, e0, hg0, kid0⟩ := HA.out.at_ (j := 0) (by simp)
                obtain ⟨g1, off', D1, cc1, e1, hg1, kid1⟩ := HA.out.at_ (j := 1) (by simp)
                rw [e0] at e1
                injection e1 with e1
                injection e1 with ea eb
                subst ea eb e0
                obtain ⟨a0, a1, a2, a3, a4, a5⟩ := kid0
                obtain ⟨b0, b1, b2, b3, b4, b5⟩ := kid1
                simp only [List.getElem_cons_zero, List.getElem_cons_succ, Ex.kind, Ex.n, Ex.s, Ex.kids, Nat.zero_mul, Nat.add_zero, Nat.one_mul, Nat.add_assoc, Nat.reduceAdd] at a0 a1 a2 a3 a4 a5 b0 b1 b2 b3 b4 b5
                have HI1 := Lib.hid (HI.out (a + 1) xk xn xs xks D0 cc0 B g (m - 1) W1 (by omega) a5 a4 hB hX (by omega) (by have := dn_pos d; rw [dn_succ] at hm2; omega) (by omega) (by omega))
                have HI2 := Lib.hid (fun (W : World) (z : Int) (h1 : W1.grownBy W (some g)) (h2 : Boxed W g 109 (.int .i64 z)) (h3 : z ≤ 1000) (h4 : dn d ≤ z + 1000) => HI.out (a + 1) yk yn ys yks D1 cc1 B g z W (by omega) (b5.keep (gb_below h1 hB (by omega))) b4 hB h2 h3 h4 (by omega) (by omega))
                have hne0 : g0 ≠ g := by omega
                have hlt0 : g0 < W1.heap.size := by omega
                clear hk0 a5 b5 ch
                go_enter Tryz.func66, Tryz.ntmps66
                go_wp2_with fail
                rw [← hW1]
                clear hW1
                refine (HM.out _).mono ?_
                rintro e w1 ⟨rfl, rfl⟩
                go_wp2_with fail
                refine HI1.out.mono ?_
                rintro e w2 ⟨v1, ok1, n1, rfl, hv1, hX2, hg2, l1, l2, y1, y2⟩
                have t2 := (gb_cell hg2 (p := ⟨w.heap.size, 2, none⟩) (by show w.heap.size < _; omega) (by show w.heap.size ≠ _; omega)).trans d2
                have t3 := (gb_cell hg2 (p := ⟨w.heap.size, 3, none⟩) (by show w.heap.size < _; omega) (by show w.heap.size ≠ _; omega)).trans d3
                have s0 := (gb_cell hg2 (p := ⟨g0, off + 4, none⟩) hlt0 hne0).trans b0
                have s1 := (gb_cell hg2 (p := ⟨g0, off + 5, none⟩) hlt0 hne0).trans b1
                have s2 := (gb_cell hg2 (p := ⟨g0, off + 6, none⟩) hlt0 hne0).trans b2
                have s3 := (gb_cell hg2 (p := ⟨g0, off + 7, none⟩) hlt0 hne0).trans b3
                have HI3 := Lib.hid (HI2.out w2 n1 hg2 hX2 (by omega) (by have := dn_pos d; rw [dn_succ] at hm2; omega))
                have hsz2 := hg2.size
                clear d0 d1 d2 d3 a0 a1 a2 a3 b0 b1 b2 b3
                have Y1 := Lib.hid y1
                have Y2 := Lib.hid y2
                clear y1 y2
                go_wp2_with fail
                refine HI3.out.mono ?_
                rintro e w3 ⟨v2, ok2, n2, rfl, hv2, hX3, hg3, l3, l4, z1, z2⟩
                have t4 := (gb_cell hg3 (p := ⟨w.heap.size, 2, none⟩) (by show w.heap.size < _; omega) (by show w.heap.size ≠ _; omega)).trans t2
                have Z1 := Lib.hid z1
                have Z2 := Lib.hid z2
                clear z1 z2 t2 t3 s0 s1 s2 s3
                have hgA := gb_trans hgW (gb_trans hg2 hg3)
                have hpos := dn_pos d
                cases ok1
                · have HN := Lib.hid (show ptOf (d + 1) (.mk 3 0 s [.mk xk xn xs xks, .mk yk yn ys yks]) = none ∨ m < (Ex.mk 3 0 s [.mk xk xn xs xks, .mk yk yn ys yks]).nodes by
                    rcases Y2.out rfl with h | h
                    · exact .inl (two_none (.inl h))
                    · refine .inr ?_
                      simp only [Ex.nodes, Ex.nodess] at h ⊢
                      omega)
                  rcases hv1 with rfl | ⟨t1, u1, rfl⟩ <;> rcases hv2 with rfl | ⟨t2, u2, rfl⟩
                  all_goals go_wp2_with fail
                  all_goals go_ret2
                  all_goals exact parts_no hX3 hgA (by omega) (by rw [dn_succ]; omega) HN.out (.inr ⟨_, _, rfl⟩)
                · obtain ⟨p1, hp1, rfl, hn1, hn10⟩ := Y1.out rfl
                  obtain ⟨t1, u1, hv1'⟩ := partV_if p1
                  rw [hv1']
                  have HV1 := Lib.hid hv1'
                  clear hv1 hv1'
                  cases ok2
                  · have HN := Lib.hid (show ptOf (d + 1) (.mk 3 0 s [.mk xk xn xs xks, .mk yk yn ys yks]) = none ∨ m < (Ex.mk 3 0 s [.mk xk xn xs xks, .mk yk yn ys yks]).nodes by
                      rcases Z2.out rfl with h | h
                      · exact .inl (two_none (.inr h))
                      · have e := (ptOf_ex _ _ _ hp1).1
                        have e2 := p1.nodes_ex
                        rw [← e] at e2
                        refine .inr ?_
                        simp only [Ex.nodes, Ex.nodess] at h e2 ⊢
                        omega)
                    rcases hv2 with rfl | ⟨t2, u2, rfl⟩
                    all_goals go_wp2_with fail
                    all_goals go_ret2
                    all_goals exact parts_no hX3 hgA (by omega) (by rw [dn_succ]; omega) HN.out (.inr ⟨_, _, rfl⟩)
                  · obtain ⟨p2, hp2, rfl, hn2, hn20⟩ := Z1.out rfl
                    obtain ⟨t2, u2, hv2'⟩ := partV_if p2
                    rw [hv2']
                    have HV2 := Lib.hid hv2'
                    have HF2 := Lib.hid (parts_ok (p := .two s p1 p2) hX3 hgA (n := m) (by omega) (by rw [dn_succ]; omega) (two_some HC.out hp1 hp2) (by simp only [Pt.nodes]; omega) hn20)
                    rw [partV, HV1.out, HV2.out] at HF2
                    clear hv2 hv2'
                    go_wp2_with fail
                    go_ret2
                    exact HF2.out
              · have q2 : ((ks.length : Int) != 2) = true := by rw [bne_iff_ne]; omega
                have HH := Lib.hid (show decide (headOk 3 0 s = some ks.length) = false by simp [headOk, ch]; omega)
                clear hk0 ch
                go_enter Tryz.func66, Tryz.ntmps66
                go_wp2_with fail
                rw [← hW1]
                clear hW1
                refine (HM.out _).mono ?_
                rintro e w1 ⟨rfl, rfl⟩
                go_wp2_with fail
                go_ret2
                exact parts_no hX hgW (by omega) (by have := dn_pos d; rw [dn_succ]; omega) (.inl (form_none (by rw [HF.out, HH.out]; rfl))) (by first | exact .inl rfl | exact .inr ⟨_, _, rfl⟩)
          · have q0 : (n != 0) = true := by rw [bne_iff_ne]; exact c0
            have HH := Lib.hid (show decide (headOk 3 n s = some ks.length) = false by simp [headOk, c0])
            go_enter Tryz.func66, Tryz.ntmps66
            go_wp2_with fail
            rw [← hW1]
            clear hW1
            go_ret2
            exact parts_no hX hgW (by omega) (by have := dn_pos d; rw [dn_succ]; omega) (.inl (form_none (by rw [HF.out, HH.out]; rfl))) (by first | exact .inl rfl | exact .inr ⟨_, _, rfl⟩)
        · have e3 : (k == 3) = false := by rw [beq_eq_false_iff_ne]; exact h3
          by_cases h4 : k = 4
          · subst h4
            by_cases c0 : n = 0
            · subst c0
              have q0 : ((0 : Int) != 0) = false := rfl
              have HM := Lib.hid (fun W => typeOk_any s W)
              cases ch : typeB s
              · rw [ch] at HM
                have HH := Lib.hid (show decide (headOk 4 0 s = some ks.length) = false by simp [headOk, ch])
                clear ch
                go_enter Tryz.func66, Tryz.ntmps66
                go_wp2_with fail
                rw [← hW1]
                clear hW1
                refine (HM.out _).mono ?_
                rintro e w1 ⟨rfl, rfl⟩
                go_wp2_with fail
                go_ret2
                exact parts_no hX hgW (by omega) (by have := dn_pos d; rw [dn_succ]; omega) (.inl (form_none (by rw [HF.out, HH.out]; rfl))) (by first | exact .inl rfl | exact .inr ⟨_, _, rfl⟩)
              · rw [ch] at HM
                by_cases hk0 : ks.length = 1
                · have HC := Lib.hid ch
                  obtain ⟨x, rfl⟩ : ∃ x, ks = [x] := by
                    match ks, hk0 with
                    | [x], _ => exact ⟨x, rfl⟩
                  obtain ⟨xk, xn, xs, xks⟩ := x
                  simp only [Ex.wts, Ex.wt] at hk
                  simp only [List.length_cons, List.length_nil, Nat.zero_add] at hW1 d3 hc hl ⊢
                  obtain ⟨g0, off, D0, cc0, e0, hg0, kid0⟩ := HA.out.at_ (j := 0) (by simp)
                  subst e0
                  obtain ⟨a0, a1, a2, a3, a4, a5⟩ := kid0
                  simp only [List.getElem_cons_zero, Ex.kind, Ex.n, Ex.s, Ex.kids, Nat.zero_mul, Nat.add_zero] at a0 a1 a2 a3 a4 a5
                  have HI1 := Lib.hid (HI.out (a + 1) xk xn xs xks D0 cc0 B g (m - 1) W1 (by omega) a5 a4 hB hX (by omega) (by have := dn_pos d; rw [dn_succ] at hm2; omega) (by omega) (by omega))
                  clear hk0 a5 ch
                  go_enter Tryz.func66, Tryz.ntmps66
                  go_wp2_with fail
                  rw [← hW1]
                  clear hW1
                  refine (HM.out _).mono ?_
                  rintro e w1 ⟨rfl, rfl⟩
                  go_wp2_with fail
                  refine HI1.out.mono ?_
                  rintro e w2 ⟨v1, ok1, n1, rfl, hv1, hX2, hg2, l1, l2, y1, y2⟩
                  have t2 := (gb_cell hg2 (p := ⟨w.heap.size, 2, none⟩) (by show w.heap.size < _; omega) (by show w.heap.size ≠ _; omega)).trans d2
                  have Y1 := Lib.hid y1
                  have Y2 := Lib.hid y2
                  clear y1 y2 d0 d1 d2 d3 a0 a1 a2 a3
                  have hgA := gb_trans hgW hg2
                  have hpos := dn_pos d
                  cases ok1
                  · have HN := Lib.hid (show ptOf (d + 1) (.mk 4 0 s [.mk xk xn xs xks]) = none ∨ m < (Ex.mk 4 0 s [.mk xk xn xs xks]).nodes by
                      rcases Y2.out rfl with h | h
                      · exact .inl (as_none h)
                      · refine .inr ?_
                        simp only [Ex.nodes, Ex.nodess] at h ⊢
                        omega)
                    rcases hv1 with rfl | ⟨t1, u1, rfl⟩
                    all_goals go_wp2_with fail
                    all_goals go_ret2
                    all_goals exact parts_no hX2 hgA (by omega) (by rw [dn_succ]; omega) HN.out (.inr ⟨_, _, rfl⟩)
                  · obtain ⟨p1, hp1, rfl, hn1, hn10⟩ := Y1.out rfl
                    obtain ⟨t1, u1, hv1'⟩ := partV_if p1
                    rw [hv1']
                    have HV1 := Lib.hid hv1'
                    have HF2 := Lib.hid (parts_ok (p := .as s p1) hX2 hgA (n := m) (by omega) (by rw [dn_succ]; omega) (as_some HC.out hp1) (by simp only [Pt.nodes]; omega) hn10)
                    rw [partV, HV1.out] at HF2
                    clear hv1 hv1'
                    go_wp2_with fail
                    go_ret2
                    exact HF2.out
                · have q2 : ((ks.length : Int) != 1) = true := by rw [bne_iff_ne]; omega
                  have HH := Lib.hid (show decide (headOk 4 0 s = some ks.length) = false by simp [headOk, ch]; omega)
                  clear hk0 ch
                  go_enter Tryz.func66, Tryz.ntmps66
                  go_wp2_with fail
                  rw [← hW1]
                  clear hW1
                  refine (HM.out _).mono ?_
                  rintro e w1 ⟨rfl, rfl⟩
                  go_wp2_with fail
                  go_ret2
                  exact parts_no hX hgW (by omega) (by have := dn_pos d; rw [dn_succ]; omega) (.inl (form_none (by rw [HF.out, HH.out]; rfl))) (by first | exact .inl rfl | exact .inr ⟨_, _, rfl⟩)
            · have q0 : (n != 0) = true := by rw [bne_iff_ne]; exact c0
              have HH := Lib.hid (show decide (headOk 4 n s = some ks.length) = false by simp [headOk, c0])
              go_enter Tryz.func66, Tryz.ntmps66
              go_wp2_with fail
              rw [← hW1]
              clear hW1
              go_ret2
              exact parts_no hX hgW (by omega) (by have := dn_pos d; rw [dn_succ]; omega) (.inl (form_none (by rw [HF.out, HH.out]; rfl))) (by first | exact .inl rfl | exact .inr ⟨_, _, rfl⟩)
          · have e4 : (k == 4) = false := by rw [beq_eq_false_iff_ne]; exact h4
            have HH := Lib.hid (show decide (headOk k n s = some ks.length) = false by simp [headOk, h1, h2, h3, h4])
            clear h1 h2 h3 h4
            go_enter Tryz.func66, Tryz.ntmps66
            go_wp2_with fail
            rw [← hW1]
            clear hW1
            go_ret2
            exact parts_no hX hgW (by omega) (by have := dn_pos d; rw [dn_succ]; omega) (.inl (form_none (by rw [HF.out, HH.out]; rfl))) (by first | exact .inl rfl | exact .inr ⟨_, _, rfl⟩)
end Go.Proofs.YtabignplhkbcpaaGreatDoor
