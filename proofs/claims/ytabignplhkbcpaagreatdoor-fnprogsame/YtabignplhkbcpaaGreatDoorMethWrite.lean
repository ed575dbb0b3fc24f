/-
  The contracts of the program's write, writeHeld and of what ExprWords hands to them, for all parts: the words are put behind those that are there.
-/
import Derived.Test.YtabignplhkbcpaaGreatDoorMethBare
import Derived.Test.YtabignplhkbcpaaGreatDoorDecimal
import Derived.Test.YtabignplhkbcpaaGreatDoorGB
import Derived.Test.YtabignplhkbcpaaGreatDoorGA
import Derived.Test.YtabignplhkbcpaaGreatDoorGD
namespace Go.Proofs.YtabignplhkbcpaaGreatDoor
open Go.RowKit

/-- The box at g holds a slice of its own, from block B on, which holds these words. -/
def Lst (B g : Nat) (xs : List ByteArray) (w : World) : Prop := B ≤ g ∧ ∃ v, Boxed w g 50 v ∧ w.ownsRow B 9 1 v xs.length (xs.map strV)
theorem ownsRow_succ {w : World} {base : Nat} {e : TypeId} {size : Nat} {v : Value} {n : Nat} {xs : List Value} (h : w.ownsRow base e size v (n + 1) xs) : ∃ g cap, v = .slice (some ⟨g, 0, none⟩) (n + 1) cap := by
  rcases h.2 with ⟨_, h0⟩ | ⟨g, cap, _, hv, _⟩
  · omega
  · exact ⟨g, cap, hv⟩
/-- Block k is neither the box at g nor where its slice lies. -/
def Free (g k : Nat) (w : World) : Prop := g < w.heap.size ∧ k < w.heap.size ∧ k ≠ g ∧ ∀ v, Boxed w g 50 v → v.ownBlock ≠ some k
/-- Whatever is no row of texts, and is not block g, lies as it lay; and so does all that is free of the box. -/
structure Rest (g : Nat) (w w' : World) : Prop where
  size : w.heap.size ≤ w'.heap.size
  old : ∀ k cs t fr, w.heap[k]? = some (.cells cs t fr) → t ≠ 9 → k ≠ g → w'.heap[k]? = some (.cells cs t fr)
  keep : ∀ k, Free g k w → w'.heap[k]? = w.heap[k]? ∧ Free g k w'
theorem Rest.trans {g : Nat} {a b c : World} (h : Rest g a b) (k : Rest g b c) : Rest g a c :=
  ⟨Nat.le_trans h.1 k.1, fun i cs t fr h1 h2 h3 => k.2 i cs t fr (h.2 i cs t fr h1 h2 h3) h2 h3, fun i hi => by
    obtain ⟨q1, q2⟩ := h.3 i hi
    obtain ⟨q3, q4⟩ := k.3 i q2
    exact ⟨q3.trans q1, q4⟩⟩
theorem Rest.below {g : Nat} {w w' : World} (h : Below w.heap.size w w') : Rest g w w' :=
  ⟨h.size, fun k _ _ _ h1 _ _ => (h.block k (Array.getElem?_eq_some_iff.1 h1).1).trans h1, fun i hi => ⟨h.block i hi.2.1, Nat.lt_of_lt_of_le hi.1 h.size, Nat.lt_of_lt_of_le hi.2.1 h.size, hi.2.2.1, fun v hv => hi.2.2.2 v ((h.block g hi.1).symm.trans hv)⟩⟩
theorem Rest.cell {g : Nat} {w w' : World} (h : Rest g w w') {b j : Nat} {cs : Array Value} {t : TypeId} (hb : w.heap[b]? = some (.cells cs t (0, 0))) (ht : t ≠ 9) (hg : b ≠ g) {v : Value} (hv : cs[j]? = some v) : w'.cell? ⟨b, j, none⟩ = some v := by
  have := h.2 b cs t (0, 0) hb ht hg
  simp [World.cell?, this, hv]
/-- The words were put behind the others. -/
def Puts (B g : Nat) (xs ys : List ByteArray) (w : World) (r : Ending) (w' : World) : Prop := (∃ v, r = .returned v) ∧ Lst B g (xs ++ ys) w' ∧ Below B w w' ∧ Rest g w w'

set_option maxRecDepth 100000 in
set_option maxHeartbeats 1000000 in
theorem sendD_any (B g : Nat) (xs : List ByteArray) (s : ByteArray) (w : World) (h : Lst B g xs w) (hB : B ≤ w.heap.size) (hl : xs.length ≤ 10000) :
    Calls Tryz.prog 69 #[.string s, .pointer (some ⟨g, 0, none⟩)] w (Puts B g xs [s] w) := by
  obtain ⟨hBg, v, hv, hrow⟩ := h
  obtain ⟨i0, hi, hz0, hz1, hz2⟩ := info_parts infoStr
  obtain ⟨A, c, hvs, hc⟩ := own_slice hrow
  subst hvs
  have hcell := hv.cell
  have hfro := hv.frozen
  go_enter Tryz.func69, Tryz.ntmps69
  go_wp2_with (at_builtin; refine wpList_append_own_at _ rfl _ _ 50 rfl B 9 i0 (.string ByteArray.empty) 1 16 Tryz.underlying50 hi hz0 hz1 hz2 rfl (by decide) _ _ _ rfl (hrow.alloc _) ⟨w.heap.size, 0, none⟩ 1 1 [.string s] rfl rfl (cell_one_new _ _ _) (by simp [Value.oneCell']) (by unfold maxLen; omega) (by omega) (by simp; omega) ?_; intro v' w1 hown' hgrow _ hat; obtain ⟨g', cap', rfl⟩ := ownsRow_succ hown'; obtain ⟨hv1, hv2, hr2, _, hb2⟩ := hv.appended (by decide) hrow hB hBg hown' hgrow; have hc1 := hv1.cell; have hf1 := hv1.frozen)
  go_end0
  refine ⟨⟨_, rfl⟩, ⟨hBg, _, hv2, by rw [List.map_append, List.length_append]; exact hr2⟩, hb2, ?_⟩
  have hgrow2 : (w.alloc (.cells #[.string s] 9)).grownBy w1 (Value.slice A xs.length c).ownBlock := hgrow
  clear hgrow
  refine ⟨Nat.le_trans (by simp) (Nat.le_trans hgrow2.size (by simp)), fun k cs t fr h1 h2 h3 => ?_, fun k hk => ?_⟩
  · have hk : k < w.heap.size := (Array.getElem?_eq_some_iff.1 h1).1
    refine (Below.heap_setCell _ _ _ k h3).trans ((hgrow2.block k (by simp; omega) (fun ej => ?_)).trans ((Below.heap_alloc _ _ _ hk).trans h1))
    rcases hrow.2 with ⟨hnil, _⟩ | ⟨g2, cap, cur, hsl, _, hgb, _⟩
    · rw [hnil] at ej; simp [Value.ownBlock] at ej
    · rw [hsl] at ej
      obtain rfl : g2 = k := by simpa [Value.ownBlock] using ej.symm
      rw [h1] at hgb
      injection hgb with hgb
      injection hgb with _ hty _
      exact h2 hty
  · obtain ⟨k1, k2, k3, k4⟩ := hk
    have hz2 := hgrow2.size
    rw [World.size_alloc] at hz2
    refine ⟨(Below.heap_setCell _ _ _ k k3).trans ((hgrow2.block k (by simp; omega) (fun ej => k4 _ hv ej.symm)).trans (Below.heap_alloc _ _ _ k2)), by simp; omega, by simp; omega, k3, fun v hb => ?_⟩
    have e1 := hb.symm.trans hv2
    injection e1 with e1
    injection e1 with e1 _ _
    have e2 : v = Value.slice (some ⟨g', 0, none⟩) (xs.length + 1) cap' := by simpa using e1
    rw [e2]
    rcases hat with h | h
    · rw [h]; exact k4 _ hv
    · rw [h]; simp; omega

/-- What sends words on does this to the list for each, and the world beside it keeps. -/
def PutsG (f : List ByteArray → ByteArray → List ByteArray) (B g : Nat) (xs ys : List ByteArray) (w : World) (r : Ending) (w' : World) : Prop := (∃ v, r = .returned v) ∧ Lst B g (ys.foldl f xs) w' ∧ Below B w w' ∧ Rest g w w'
theorem foldl_more (ys : List ByteArray) : ∀ xs : List ByteArray, ys.foldl (fun l s => l ++ [s]) xs = xs ++ ys := by
  induction ys with
  | nil => intro xs; simp
  | cons y ys ih => intro xs; rw [List.foldl_cons, ih]; simp
theorem fl {f : List ByteArray → ByteArray → List ByteArray} (hl : ∀ xs s, (f xs s).length ≤ xs.length + 1) (ys : List ByteArray) : ∀ xs, (ys.foldl f xs).length ≤ xs.length + ys.length := by
  induction ys with
  | nil => intro xs; simp
  | cons y ys ih => intro xs; rw [List.foldl_cons, List.length_cons]; have := ih (f xs y); have := hl xs y; omega
/-- A function value that sends words on, to the box at g. -/
def sendW (FN g : Nat) : Value := .func (.func FN) #[] #[.pointer (some ⟨g, 0, none⟩)]
structure Sends (FN : Nat) (f : List ByteArray → ByteArray → List ByteArray) (W0 : World) (g : Nat) : Prop where
  n : ∀ args w, (callFunc FN args).run Tryz.prog w = .ok (.enter FN args) w
  l : ∀ xs s, (f xs s).length ≤ xs.length + 1
  s : ∀ (s : ByteArray) (w' : World) (ys : List ByteArray), Below W0.heap.size W0 w' → Lst W0.heap.size g ys w' → ys.length ≤ 10000 → s.size ≤ 2 ^ 40 → Calls Tryz.prog FN #[.string s, .pointer (some ⟨g, 0, none⟩)] w' (PutsG f W0.heap.size g ys [s] w')
theorem name_size8 {s : ByteArray} (h : nameB s = true) : s.size ≤ 8 := by
  simp only [nameB, wordL, Bool.and_eq_true, decide_eq_true_eq] at h
  have h2 := h.1.2.1
  rwa [L_length] at h2
theorem type_size4 {s : ByteArray} (h : typeB s = true) : s.size ≤ 4 := by
  simp only [typeB, Bool.or_eq_true, decide_eq_true_eq] at h
  rcases h with rfl | rfl <;> decide
theorem hold_size1 {s : ByteArray} (h : hold s ≠ 0) : s.size ≤ 1 := by
  unfold hold at h
  by_cases h1 : s = sLess
  · subst h1; decide
  by_cases h2 : s = sPlus
  · subst h2; decide
  by_cases h3 : s = sMinus
  · subst h3; decide
  by_cases h4 : s = sTimes
  · subst h4; decide
  simp [h1, h2, h3, h4] at h
theorem decS_size7 {n : Int} (h : n ≤ 1000000) : (decS n).size ≤ 7 := by
  have h1 : (L (decS n)).length ≤ 7 := decL_length ((decL_iff _).2 ⟨n.toNat, by omega, rfl⟩)
  rwa [L_length] at h1

theorem decS_itoa {n : Int} (h : 0 ≤ n) : (⟨(Lib.itoa n).toArray⟩ : ByteArray) = decS n := by
  unfold decS Lib.itoa
  rw [if_neg (by omega)]

theorem partV_if' (p : Pt) : ∃ t u, partV p = .iface t u := by cases p <;> exact ⟨_, _, rfl⟩
/-- The part writes its words behind those that are there. -/
def WritesG (FN : Nat) (f : List ByteArray → ByteArray → List ByteArray) (W0 : World) (g : Nat) (p : Pt) : Prop := ∀ (w : World) (xs : List ByteArray), Below W0.heap.size W0 w → Lst W0.heap.size g xs w → xs.length + 6 * p.nodes ≤ 5000 → Calls Tryz.prog (fWrite p) #[ptU p, sendW FN g] w (PutsG f W0.heap.size g xs p.words w)

set_option maxRecDepth 100000 in
set_option maxHeartbeats 2000000 in
theorem writeHeld_gen {FN : Nat} {f : List ByteArray → ByteArray → List ByteArray} {W0 : World} {g : Nat} {p : Pt} (hSD : Sends FN f W0 g) (hW : WritesG FN f W0 g p) (must : Nat) (w : World) (xs : List ByteArray) (hb : Below W0.heap.size W0 w) (hL : Lst W0.heap.size g xs w) (hn : xs.length + 6 * p.nodes + 2 ≤ 5000) (_hm : must ≤ 10) :
    Calls Tryz.prog 185 #[partV p, .int .i64 (must : Int), sendW FN g] w (PutsG f W0.heap.size g xs (wrapW (decide (p.lvl < must)) p.words) w) := by
  obtain ⟨m1, n1, k1⟩ := meth_hold p
  obtain ⟨m2, n2, k2⟩ := meth_write p
  have HH := Lib.hid (hold_any p w)
  have HWR := Lib.hid hW
  have HSD := Lib.hid hSD
  obtain ⟨nF, hl, hS⟩ := hSD
  have HS := Lib.hid hS
  have HFL := Lib.hid (fl hl)
  clear hS hl
  unfold WritesG at HWR
  have hlv : p.lvl ≤ 4 := by cases p <;> simp [Pt.lvl]; rename_i s a b; have := hold_le s; omega
  rw [partV_at p]
  unfold sendW at *
  generalize ptT p = t1 at *
  generalize ptU p = u1 at *
  generalize fHold p = f1 at *
  generalize fWrite p = f2 at *
  by_cases hlt : p.lvl < must
  · have q : decide (must ≤ p.lvl) = false := by simp; omega
    have q5 : ¬ must ≤ p.lvl := by omega
    have e : wrapW (decide (p.lvl < must)) p.words = [sLp] ++ p.words ++ [sRp] := by simp [wrapW, hlt]
    rw [e]
    generalize p.lvl = lv at *
    have hwl := p.words_length
    generalize p.words = ws at *
    have HL := Lib.hid hL
    clear hL hlt e hW
    go_enter Tryz.func185, Tryz.ntmps185
    go_wp2_with fail
    refine HH.out.mono ?_
    rintro r w1 ⟨rfl, hb1⟩
    have L1 : Lst W0.heap.size g xs w1 := by
      obtain ⟨h1, v, h2, h3⟩ := HL.out
      exact ⟨h1, v, (hb1.block g h2.lt).trans h2, own_below h3 hb1⟩
    have B1 := hb.trans (hb1.mono hb.size)
    go_wp2_with fail
    refine (HS.out sLp w1 xs B1 L1 (by omega) (by decide)).mono ?_
    rintro r w2 ⟨⟨v2, rfl⟩, L2, b2, R2⟩
    have B2 := B1.trans b2
    go_wp2_with fail
    refine (HWR.out w2 _ B2 L2 (by have h1 := HFL.out [sLp] xs; rw [List.length_singleton] at h1; omega)).mono ?_
    rintro r w3 ⟨⟨v3, rfl⟩, L3, b3, R3⟩
    have B3 := B2.trans b3
    go_wp2_with fail
    refine (HS.out sRp w3 _ B3 L3 (by have h1 := HFL.out [sLp] xs; have h2 := HFL.out ws ([sLp].foldl f xs); rw [List.length_singleton] at h1; omega) (by decide)).mono ?_
    rintro r w4 ⟨⟨v4, rfl⟩, L4, b4, R4⟩
    go_wp2_with fail
    go_end0
    refine ⟨⟨_, rfl⟩, by simpa using L4, (hb1.mono hb.size).trans (b2.trans (b3.trans b4)), (Rest.below hb1).trans (R2.trans (R3.trans R4))⟩
  · have q : decide (must ≤ p.lvl) = true := by simp; omega
    have q5 : must ≤ p.lvl := by omega
    have e : wrapW (decide (p.lvl < must)) p.words = p.words := by simp [wrapW, hlt]
    rw [e]
    generalize p.lvl = lv at *
    generalize p.words = ws at *
    have HL := Lib.hid hL
    clear hL hlt e hW HS
    go_enter Tryz.func185, Tryz.ntmps185
    go_wp2_with fail
    refine HH.out.mono ?_
    rintro r w1 ⟨rfl, hb1⟩
    have L1 : Lst W0.heap.size g xs w1 := by
      obtain ⟨h1, v, h2, h3⟩ := HL.out
      exact ⟨h1, v, (hb1.block g h2.lt).trans h2, own_below h3 hb1⟩
    have B1 := hb.trans (hb1.mono hb.size)
    go_wp2_with fail
    refine (HWR.out w1 xs B1 L1 (by omega)).mono ?_
    rintro r w3 ⟨⟨v3, rfl⟩, L3, b3, R3⟩
    go_wp2_with fail
    refine bodyPost_ret (results_none rfl _ _ _) rfl ?_
    exact ⟨⟨_, rfl⟩, L3, (hb1.mono hb.size).trans b3, (Rest.below hb1).trans R3⟩

theorem Lst.below {B g : Nat} {xs : List ByteArray} {w w' : World} (h : Lst B g xs w) (hb : Below w.heap.size w w') : Lst B g xs w' := by
  obtain ⟨h1, v, h2, h3⟩ := h
  exact ⟨h1, v, (hb.block g h2.lt).trans h2, own_below h3 hb⟩
theorem heap_new (w : World) (cs : Array Value) (t : TypeId) : (w.alloc (.cells cs t)).heap[w.heap.size]? = some (.cells cs t (0, 0)) := World.alloc_heap_new w _

set_option maxRecDepth 100000 in
set_option maxHeartbeats 4000000 in
theorem write_gen {FN : Nat} {f : List ByteArray → ByteArray → List ByteArray} {W0 : World} (hL0 : LaidW W0) {g : Nat} (hSD : Sends FN f W0 g) (p : Pt) : p.fine = true → WritesG FN f W0 g p := by
  have HSD := Lib.hid hSD
  obtain ⟨nF, hl, hS⟩ := hSD
  have HS := Lib.hid hS
  have HFL := Lib.hid (fl hl)
  clear hS hl
  have HL0 := Lib.hid hL0
  clear hL0
  induction p with
  | num n =>
    intro hf w xs hb hL hn
    simp only [Pt.fine, Bool.and_eq_true, decide_eq_true_eq] at hf
    show Calls Tryz.prog 170 #[.agg #[.int .i64 n], sendW FN g] w (PutsG f W0.heap.size g xs [decS n] w)
    rw [← decS_itoa hf.1]
    simp only [Pt.nodes] at hn
    have hb0 : Below w.heap.size w (w.alloc (.cells #[.int .i64 n] 132)) := (Below.refl _ w).alloc (Nat.le_refl _) _
    have HI := Lib.hid (Tryz.strconv_Itoa n (by omega) (by omega) (w.alloc (.cells #[.int .i64 n] 132)) ((HL0.out.below hb).below hb0).tab)
    have HT := Lib.hid (show (⟨(Lib.itoa n).toArray⟩ : ByteArray).size ≤ 2 ^ 40 by rw [decS_itoa hf.1]; have := decS_size7 hf.2; omega)
    generalize (⟨(Lib.itoa n).toArray⟩ : ByteArray) = t at *
    have HL := Lib.hid hL
    unfold sendW
    clear hL
    go_enter Tryz.func170, Tryz.ntmps170
    go_wp2_with fail
    refine HI.out.mono ?_
    rintro r w1 ⟨rfl, k, os, hw1⟩
    have hb1 : Below (w.alloc (.cells #[.int .i64 n] 132)).heap.size (w.alloc (.cells #[.int .i64 n] 132)) w1 := by rw [hw1]; exact below_grows _ k os
    have hb01 := hb0.trans (hb1.mono hb0.size)
    clear hw1
    go_wp2_with fail
    refine (HS.out t w1 xs (hb.trans (hb01.mono hb.size)) (HL.out.below hb01) (by omega) HT.out).mono ?_
    rintro r w2 ⟨⟨v2, rfl⟩, L2, b2, R2⟩
    go_wp2_with fail
    go_end0
    exact ⟨⟨_, rfl⟩, L2, (hb01.mono hb.size).trans b2, (Rest.below hb01).trans R2⟩
  | name s =>
    intro hf w xs hb hL hn
    have HT := Lib.hid (show s.size ≤ 2 ^ 40 by have := name_size8 hf; omega)
    show Calls Tryz.prog 176 #[.agg #[.string s], sendW FN g] w (PutsG f W0.heap.size g xs [s] w)
    simp only [Pt.nodes] at hn
    have hb0 : Below w.heap.size w (w.alloc (.cells #[.string s] 134)) := (Below.refl _ w).alloc (Nat.le_refl _) _
    have HL := Lib.hid hL
    unfold sendW
    clear hL
    go_enter Tryz.func176, Tryz.ntmps176
    go_wp2_with fail
    refine (HS.out s _ xs (hb.trans (hb0.mono hb.size)) (HL.out.below hb0) (by omega) HT.out).mono ?_
    rintro r w2 ⟨⟨v2, rfl⟩, L2, b2, R2⟩
    go_wp2_with fail
    go_end0
    exact ⟨⟨_, rfl⟩, L2, (hb0.mono hb.size).trans b2, (Rest.below hb0).trans R2⟩
  | «as» s a ia =>
    intro hf w xs hb hL hn
    simp only [Pt.fine, Bool.and_eq_true] at hf
    simp only [Pt.nodes] at hn
    have HT := Lib.hid (show s.size ≤ 2 ^ 40 by have := type_size4 hf.1; omega)
    show Calls Tryz.prog 191 #[.agg #[.string s, partV a], sendW FN g] w (PutsG f W0.heap.size g xs (wrapW (decide (a.lvl < 4)) a.words ++ [sAs, s]) w)
    have hwl := a.words_length
    have hwr := wrapW_length (decide (a.lvl < 4)) a.words
    have hb0 : Below w.heap.size w (w.alloc (.cells #[.string s, partV a] 139)) := (Below.refl _ w).alloc (Nat.le_refl _) _
    have HW := Lib.hid (writeHeld_gen HSD.out (ia hf.2) 4 _ xs (hb.trans (hb0.mono hb.size)) (hL.below hb0) (by omega) (by omega))
    generalize wrapW (decide (a.lvl < 4)) a.words = ws at *
    have hgw : g < w.heap.size := hL.2.choose_spec.1.lt
    obtain ⟨t1, u1, hv1⟩ := partV_if' a
    rw [hv1] at HW hb0 ⊢
    have hnew := heap_new w #[.string s, .iface t1 u1] 139
    unfold sendW at *
    clear hL ia hv1
    go_enter Tryz.func191, Tryz.ntmps191
    go_wp2_with fail
    refine HW.out.mono ?_
    rintro r w1 ⟨⟨v1, rfl⟩, L1, b1, R1⟩
    have B1 := (hb.trans (hb0.mono hb.size)).trans b1
    have c1 : w1.cell? ⟨w.heap.size, 0, none⟩ = some (.string s) := R1.cell (j := 0) hnew (by decide) (by omega) rfl
    have h1 := R1.2 _ _ _ _ hnew (by decide) (by omega)
    go_wp2_with fail
    refine (HS.out sAs w1 _ B1 L1 (by have h1 := HFL.out ws xs; omega) (by decide)).mono ?_
    rintro r w2 ⟨⟨v2, rfl⟩, L2, b2, R2⟩
    have c2 : w2.cell? ⟨w.heap.size, 0, none⟩ = some (.string s) := R2.cell (j := 0) h1 (by decide) (by omega) rfl
    clear c1
    go_wp2_with fail
    refine (HS.out s w2 _ (B1.trans b2) L2 (by have h1 := HFL.out ws xs; have h2 := HFL.out [sAs] (ws.foldl f xs); rw [List.length_singleton] at h2; omega) HT.out).mono ?_
    rintro r w3 ⟨⟨v3, rfl⟩, L3, b3, R3⟩
    go_wp2_with fail
    go_end0
    exact ⟨⟨_, rfl⟩, by simpa using L3, (hb0.mono hb.size).trans (b1.trans (b2.trans b3)), (Rest.below hb0).trans (R1.trans (R2.trans R3))⟩
  | two s a b ia ib =>
    intro hf w xs hb hL hn
    simp only [Pt.fine, Bool.and_eq_true, decide_eq_true_eq] at hf
    simp only [Pt.nodes] at hn
    have HT := Lib.hid (show s.size ≤ 2 ^ 40 by have := hold_size1 hf.1; omega)
    show Calls Tryz.prog 183 #[.agg #[.string s, partV a, partV b], sendW FN g] w (PutsG f W0.heap.size g xs (Pt.two s a b).words w)
    have hwl := a.words_length
    have h3 := hold_le s
    obtain ⟨t1, u1, hv1⟩ := partV_if' a
    obtain ⟨t2, u2, hv2⟩ := partV_if' b
    have HH := Lib.hid (fun W => (show Calls Tryz.prog 181 #[.agg #[.string s, partV a, partV b]] W (fun e w' => e = .returned (.int .i64 (hold s : Int)) ∧ Below W.heap.size W w') from hold_any (.two s a b) W))
    obtain ⟨Wa, hWa⟩ : ∃ Wa, Wa = w.alloc (.cells #[.string s, .iface t1 u1, .iface t2 u2] 137) := ⟨_, rfl⟩
    have hb0 : Below w.heap.size w Wa := by rw [hWa]; exact (Below.refl _ w).alloc (Nat.le_refl _) _
    have hsa : w.heap.size < Wa.heap.size := by rw [hWa]; simp
    have hnew : Wa.heap[w.heap.size]? = some (.cells #[.string s, .iface t1 u1, .iface t2 u2] 137 (0, 0)) := by rw [hWa]; exact heap_new w _ _
    have c0 : Wa.cell? ⟨w.heap.size, 0, none⟩ = some (.string s) := by rw [hWa]; exact cell_made4 w _ _ 0 _ rfl
    have c1 : Wa.cell? ⟨w.heap.size, 1, none⟩ = some (.iface t1 u1) := by rw [hWa]; exact cell_made4 w _ _ 1 _ rfl
    have c2 : Wa.cell? ⟨w.heap.size, 2, none⟩ = some (.iface t2 u2) := by rw [hWa]; exact cell_made4 w _ _ 2 _ rfl
    have hba := hb.trans (hb0.mono hb.size)
    have HLa := Lib.hid (hL.below hb0)
    have hgw : g < w.heap.size := hL.2.choose_spec.1.lt
    have hgne : w.heap.size ≠ g := by omega
    clear hL
    have hs3 : hold s = 1 ∨ hold s = 2 ∨ hold s = 3 := by omega
    rcases hs3 with hs | hs | hs
    · rw [hs] at HH
      rw [show Pt.words (.two s a b) = wrapW (decide (a.lvl < 2)) a.words ++ [s] ++ wrapW (decide (b.lvl < 2)) b.words by rw [Pt.words, hs]; rfl]
      have HW1 := Lib.hid (fun (W : World) (h1 : Below W0.heap.size W0 W) (h2 : Lst W0.heap.size g xs W) => (show Calls Tryz.prog 185 #[partV a, .int .i64 2, sendW FN g] W (PutsG f W0.heap.size g xs (wrapW (decide (a.lvl < 2)) a.words) W) from writeHeld_gen HSD.out (ia hf.2.1) 2 W xs h1 h2 (by omega) (by omega)))
      have HW2 := Lib.hid (fun (W : World) (ys : List ByteArray) (h1 : Below W0.heap.size W0 W) (h2 : Lst W0.heap.size g ys W) (h3 : ys.length + 6 * b.nodes + 2 ≤ 5000) => (show Calls Tryz.prog 185 #[partV b, .int .i64 2, sendW FN g] W (PutsG f W0.heap.size g ys (wrapW (decide (b.lvl < 2)) b.words) W) from writeHeld_gen HSD.out (ib hf.2.2) 2 W ys h1 h2 h3 (by omega)))
      have hwr := wrapW_length (decide (a.lvl < 2)) a.words
      generalize wrapW (decide (a.lvl < 2)) a.words = wa at *
      generalize wrapW (decide (b.lvl < 2)) b.words = wb at *
      rw [hv1, hv2] at HH ⊢
      rw [hv1] at HW1
      rw [hv2] at HW2
      unfold sendW at *
      clear ia ib hv1 hv2 hs
      go_enter Tryz.func183, Tryz.ntmps183
      go_wp2_with fail
      rw [← hWa]
      clear hWa
      go_region_held3 (fun w' => w'.cell? ⟨w.heap.size, 0, none⟩ = some (.string s) ∧ w'.cell? ⟨w.heap.size, 1, none⟩ = some (.iface t1 u1) ∧ w'.cell? ⟨w.heap.size, 2, none⟩ = some (.iface t2 u2))
        (first | with_reducible exact ⟨y0, y1, y2⟩ | with_reducible exact ⟨z0, z1, z2⟩ | with_reducible exact ⟨(cell_drew0 _ _).trans c0, (cell_drew0 _ _).trans c1, (cell_drew0 _ _).trans c2⟩)
        (first | (go_at_call 181; refine (HH.out _).mono ?_; rintro r w1 ⟨rfl, hb1'⟩; have hb1 : Below Wa.heap.size Wa w1 := (Below.refl _ Wa).drew.trans hb1'; have z0 := (hb1.cell (p := ⟨w.heap.size, 0, none⟩) hsa).trans c0; have z1 := (hb1.cell (p := ⟨w.heap.size, 1, none⟩) hsa).trans c1; have z2 := (hb1.cell (p := ⟨w.heap.size, 2, none⟩) hsa).trans c2) | (go_at_call 185; refine (HW1.out _ (hba.trans (hb1.mono hba.size)) (HLa.out.below hb1)).mono ?_; rintro r w2 ⟨⟨v2, rfl⟩, L2, b2, R2⟩; have h1n := (hb1.block _ hsa).trans hnew; have y0 : w2.cell? ⟨w.heap.size, 0, none⟩ = some (.string s) := R2.cell (j := 0) h1n (by decide) hgne rfl; have y1 : w2.cell? ⟨w.heap.size, 1, none⟩ = some (.iface t1 u1) := R2.cell (j := 1) h1n (by decide) hgne rfl; have y2 : w2.cell? ⟨w.heap.size, 2, none⟩ = some (.iface t2 u2) := R2.cell (j := 2) h1n (by decide) hgne rfl; have h2n := R2.2 _ _ _ _ h1n (by decide) hgne))
      have B1 := hba.trans (hb1.mono hba.size)
      have B2 := B1.trans b2
      go_wp2_with fail
      refine (HS.out s w2 _ B2 L2 (by have h1 := HFL.out wa xs; omega) HT.out).mono ?_
      rintro r w3 ⟨⟨v3, rfl⟩, L3, b3, R3⟩
      have h3n := R3.2 _ _ _ _ h2n (by decide) hgne
      have d0 : w3.cell? ⟨w.heap.size, 0, none⟩ = some (.string s) := R3.cell (j := 0) h2n (by decide) hgne rfl
      have d1 : w3.cell? ⟨w.heap.size, 1, none⟩ = some (.iface t1 u1) := R3.cell (j := 1) h2n (by decide) hgne rfl
      have d2 : w3.cell? ⟨w.heap.size, 2, none⟩ = some (.iface t2 u2) := R3.cell (j := 2) h2n (by decide) hgne rfl
      have hl3 : w.heap.size < w3.heap.size := (Array.getElem?_eq_some_iff.1 h3n).1
      have B3 := B2.trans b3
      clear y0 y1 y2 z0 z1 z2 c0 c1 c2
      go_wp2_with fail
      go_region_held3 (fun w' => w'.cell? ⟨w.heap.size, 0, none⟩ = some (.string s) ∧ w'.cell? ⟨w.heap.size, 1, none⟩ = some (.iface t1 u1) ∧ w'.cell? ⟨w.heap.size, 2, none⟩ = some (.iface t2 u2))
        (first | with_reducible exact ⟨j0, j1, j2⟩ | with_reducible exact ⟨i0, i1, i2⟩ | with_reducible exact ⟨(cell_drew0 _ _).trans d0, (cell_drew0 _ _).trans d1, (cell_drew0 _ _).trans d2⟩)
        (first | (go_at_call 181; refine (HH.out _).mono ?_; rintro r w4 ⟨rfl, hb4'⟩; have hb4 : Below w3.heap.size w3 w4 := (Below.refl _ w3).drew.trans hb4'; have i0 := (hb4.cell (p := ⟨w.heap.size, 0, none⟩) hl3).trans d0; have i1 := (hb4.cell (p := ⟨w.heap.size, 1, none⟩) hl3).trans d1; have i2 := (hb4.cell (p := ⟨w.heap.size, 2, none⟩) hl3).trans d2) | (go_at_call 185; refine (HW2.out _ _ (B3.trans (hb4.mono B3.size)) (L3.below hb4) ?len).mono ?_; (case len => have h1 := HFL.out wa xs; have h2 := HFL.out [s] (wa.foldl f xs); rw [List.length_singleton] at h2; omega); rintro r w5 ⟨⟨v5, rfl⟩, L5, b5, R5⟩; have h4n := (hb4.block _ hl3).trans h3n; have j0 : w5.cell? ⟨w.heap.size, 0, none⟩ = some (.string s) := R5.cell (j := 0) h4n (by decide) hgne rfl; have j1 : w5.cell? ⟨w.heap.size, 1, none⟩ = some (.iface t1 u1) := R5.cell (j := 1) h4n (by decide) hgne rfl; have j2 : w5.cell? ⟨w.heap.size, 2, none⟩ = some (.iface t2 u2) := R5.cell (j := 2) h4n (by decide) hgne rfl))
      go_wp2_with fail
      go_end0
      exact ⟨⟨_, rfl⟩, by simpa using L5, (hb0.mono hb.size).trans ((hb1.mono hba.size).trans (b2.trans (b3.trans ((hb4.mono B3.size).trans b5)))), (Rest.below hb0).trans ((Rest.below hb1).trans (R2.trans (R3.trans ((Rest.below hb4).trans R5))))⟩
    · rw [hs] at HH
      rw [show Pt.words (.two s a b) = wrapW (decide (a.lvl < 2)) a.words ++ [s] ++ wrapW (decide (b.lvl < 3)) b.words by rw [Pt.words, hs]; rfl]
      have HW1 := Lib.hid (fun (W : World) (h1 : Below W0.heap.size W0 W) (h2 : Lst W0.heap.size g xs W) => (show Calls Tryz.prog 185 #[partV a, .int .i64 2, sendW FN g] W (PutsG f W0.heap.size g xs (wrapW (decide (a.lvl < 2)) a.words) W) from writeHeld_gen HSD.out (ia hf.2.1) 2 W xs h1 h2 (by omega) (by omega)))
      have HW2 := Lib.hid (fun (W : World) (ys : List ByteArray) (h1 : Below W0.heap.size W0 W) (h2 : Lst W0.heap.size g ys W) (h3 : ys.length + 6 * b.nodes + 2 ≤ 5000) => (show Calls Tryz.prog 185 #[partV b, .int .i64 3, sendW FN g] W (PutsG f W0.heap.size g ys (wrapW (decide (b.lvl < 3)) b.words) W) from writeHeld_gen HSD.out (ib hf.2.2) 3 W ys h1 h2 h3 (by omega)))
      have hwr := wrapW_length (decide (a.lvl < 2)) a.words
      generalize wrapW (decide (a.lvl < 2)) a.words = wa at *
      generalize wrapW (decide (b.lvl < 3)) b.words = wb at *
      rw [hv1, hv2] at HH ⊢
      rw [hv1] at HW1
      rw [hv2] at HW2
      unfold sendW at *
      clear ia ib hv1 hv2 hs
      go_enter Tryz.func183, Tryz.ntmps183
      go_wp2_with fail
      rw [← hWa]
      clear hWa
      go_region_held3 (fun w' => w'.cell? ⟨w.heap.size, 0, none⟩ = some (.string s) ∧ w'.cell? ⟨w.heap.size, 1, none⟩ = some (.iface t1 u1) ∧ w'.cell? ⟨w.heap.size, 2, none⟩ = some (.iface t2 u2))
        (first | with_reducible exact ⟨y0, y1, y2⟩ | with_reducible exact ⟨z0, z1, z2⟩ | with_reducible exact ⟨(cell_drew0 _ _).trans c0, (cell_drew0 _ _).trans c1, (cell_drew0 _ _).trans c2⟩)
        (first | (go_at_call 181; refine (HH.out _).mono ?_; rintro r w1 ⟨rfl, hb1'⟩; have hb1 : Below Wa.heap.size Wa w1 := (Below.refl _ Wa).drew.trans hb1'; have z0 := (hb1.cell (p := ⟨w.heap.size, 0, none⟩) hsa).trans c0; have z1 := (hb1.cell (p := ⟨w.heap.size, 1, none⟩) hsa).trans c1; have z2 := (hb1.cell (p := ⟨w.heap.size, 2, none⟩) hsa).trans c2) | (go_at_call 185; refine (HW1.out _ (hba.trans (hb1.mono hba.size)) (HLa.out.below hb1)).mono ?_; rintro r w2 ⟨⟨v2, rfl⟩, L2, b2, R2⟩; have h1n := (hb1.block _ hsa).trans hnew; have y0 : w2.cell? ⟨w.heap.size, 0, none⟩ = some (.string s) := R2.cell (j := 0) h1n (by decide) hgne rfl; have y1 : w2.cell? ⟨w.heap.size, 1, none⟩ = some (.iface t1 u1) := R2.cell (j := 1) h1n (by decide) hgne rfl; have y2 : w2.cell? ⟨w.heap.size, 2, none⟩ = some (.iface t2 u2) := R2.cell (j := 2) h1n (by decide) hgne rfl; have h2n := R2.2 _ _ _ _ h1n (by decide) hgne))
      have B1 := hba.trans (hb1.mono hba.size)
      have B2 := B1.trans b2
      go_wp2_with fail
      refine (HS.out s w2 _ B2 L2 (by have h1 := HFL.out wa xs; omega) HT.out).mono ?_
      rintro r w3 ⟨⟨v3, rfl⟩, L3, b3, R3⟩
      have h3n := R3.2 _ _ _ _ h2n (by decide) hgne
      have d0 : w3.cell? ⟨w.heap.size, 0, none⟩ = some (.string s) := R3.cell (j := 0) h2n (by decide) hgne rfl
      have d1 : w3.cell? ⟨w.heap.size, 1, none⟩ = some (.iface t1 u1) := R3.cell (j := 1) h2n (by decide) hgne rfl
      have d2 : w3.cell? ⟨w.heap.size, 2, none⟩ = some (.iface t2 u2) := R3.cell (j := 2) h2n (by decide) hgne rfl
      have hl3 : w.heap.size < w3.heap.size := (Array.getElem?_eq_some_iff.1 h3n).1
      have B3 := B2.trans b3
      clear y0 y1 y2 z0 z1 z2 c0 c1 c2
      go_wp2_with fail
      go_region_held3 (fun w' => w'.cell? ⟨w.heap.size, 0, none⟩ = some (.string s) ∧ w'.cell? ⟨w.heap.size, 1, none⟩ = some (.iface t1 u1) ∧ w'.cell? ⟨w.heap.size, 2, none⟩ = some (.iface t2 u2))
        (first | with_reducible exact ⟨j0, j1, j2⟩ | with_reducible exact ⟨i0, i1, i2⟩ | with_reducible exact ⟨(cell_drew0 _ _).trans d0, (cell_drew0 _ _).trans d1, (cell_drew0 _ _).trans d2⟩)
        (first | (go_at_call 181; refine (HH.out _).mono ?_; rintro r w4 ⟨rfl, hb4'⟩; have hb4 : Below w3.heap.size w3 w4 := (Below.refl _ w3).drew.trans hb4'; have i0 := (hb4.cell (p := ⟨w.heap.size, 0, none⟩) hl3).trans d0; have i1 := (hb4.cell (p := ⟨w.heap.size, 1, none⟩) hl3).trans d1; have i2 := (hb4.cell (p := ⟨w.heap.size, 2, none⟩) hl3).trans d2) | (go_at_call 185; refine (HW2.out _ _ (B3.trans (hb4.mono B3.size)) (L3.below hb4) ?len).mono ?_; (case len => have h1 := HFL.out wa xs; have h2 := HFL.out [s] (wa.foldl f xs); rw [List.length_singleton] at h2; omega); rintro r w5 ⟨⟨v5, rfl⟩, L5, b5, R5⟩; have h4n := (hb4.block _ hl3).trans h3n; have j0 : w5.cell? ⟨w.heap.size, 0, none⟩ = some (.string s) := R5.cell (j := 0) h4n (by decide) hgne rfl; have j1 : w5.cell? ⟨w.heap.size, 1, none⟩ = some (.iface t1 u1) := R5.cell (j := 1) h4n (by decide) hgne rfl; have j2 : w5.cell? ⟨w.heap.size, 2, none⟩ = some (.iface t2 u2) := R5.cell (j := 2) h4n (by decide) hgne rfl))
      go_wp2_with fail
      go_end0
      exact ⟨⟨_, rfl⟩, by simpa using L5, (hb0.mono hb.size).trans ((hb1.mono hba.size).trans (b2.trans (b3.trans ((hb4.mono B3.size).trans b5)))), (Rest.below hb0).trans ((Rest.below hb1).trans (R2.trans (R3.trans ((Rest.below hb4).trans R5))))⟩
    · rw [hs] at HH
      rw [show Pt.words (.two s a b) = wrapW (decide (a.lvl < 3)) a.words ++ [s] ++ wrapW (decide (b.lvl < 4)) b.words by rw [Pt.words, hs]; rfl]
      have HW1 := Lib.hid (fun (W : World) (h1 : Below W0.heap.size W0 W) (h2 : Lst W0.heap.size g xs W) => (show Calls Tryz.prog 185 #[partV a, .int .i64 3, sendW FN g] W (PutsG f W0.heap.size g xs (wrapW (decide (a.lvl < 3)) a.words) W) from writeHeld_gen HSD.out (ia hf.2.1) 3 W xs h1 h2 (by omega) (by omega)))
      have HW2 := Lib.hid (fun (W : World) (ys : List ByteArray) (h1 : Below W0.heap.size W0 W) (h2 : Lst W0.heap.size g ys W) (h3 : ys.length + 6 * b.nodes + 2 ≤ 5000) => (show Calls Tryz.prog 185 #[partV b, .int .i64 4, sendW FN g] W (PutsG f W0.heap.size g ys (wrapW (decide (b.lvl < 4)) b.words) W) from writeHeld_gen HSD.out (ib hf.2.2) 4 W ys h1 h2 h3 (by omega)))
      have hwr := wrapW_length (decide (a.lvl < 3)) a.words
      generalize wrapW (decide (a.lvl < 3)) a.words = wa at *
      generalize wrapW (decide (b.lvl < 4)) b.words = wb at *
      rw [hv1, hv2] at HH ⊢
      rw [hv1] at HW1
      rw [hv2] at HW2
      unfold sendW at *
      clear ia ib hv1 hv2 hs
      go_enter Tryz.func183, Tryz.ntmps183
      go_wp2_with fail
      rw [← hWa]
      clear hWa
      go_region_held3 (fun w' => w'.cell? ⟨w.heap.size, 0, none⟩ = some (.string s) ∧ w'.cell? ⟨w.heap.size, 1, none⟩ = some (.iface t1 u1) ∧ w'.cell? ⟨w.heap.size, 2, none⟩ = some (.iface t2 u2))
        (first | with_reducible exact ⟨y0, y1, y2⟩ | with_reducible exact ⟨z0, z1, z2⟩ | with_reducible exact ⟨(cell_drew0 _ _).trans c0, (cell_drew0 _ _).trans c1, (cell_drew0 _ _).trans c2⟩)
        (first | (go_at_call 181; refine (HH.out _).mono ?_; rintro r w1 ⟨rfl, hb1'⟩; have hb1 : Below Wa.heap.size Wa w1 := (Below.refl _ Wa).drew.trans hb1'; have z0 := (hb1.cell (p := ⟨w.heap.size, 0, none⟩) hsa).trans c0; have z1 := (hb1.cell (p := ⟨w.heap.size, 1, none⟩) hsa).trans c1; have z2 := (hb1.cell (p := ⟨w.heap.size, 2, none⟩) hsa).trans c2) | (go_at_call 185; refine (HW1.out _ (hba.trans (hb1.mono hba.size)) (HLa.out.below hb1)).mono ?_; rintro r w2 ⟨⟨v2, rfl⟩, L2, b2, R2⟩; have h1n := (hb1.block _ hsa).trans hnew; have y0 : w2.cell? ⟨w.heap.size, 0, none⟩ = some (.string s) := R2.cell (j := 0) h1n (by decide) hgne rfl; have y1 : w2.cell? ⟨w.heap.size, 1, none⟩ = some (.iface t1 u1) := R2.cell (j := 1) h1n (by decide) hgne rfl; have y2 : w2.cell? ⟨w.heap.size, 2, none⟩ = some (.iface t2 u2) := R2.cell (j := 2) h1n (by decide) hgne rfl; have h2n := R2.2 _ _ _ _ h1n (by decide) hgne))
      have B1 := hba.trans (hb1.mono hba.size)
      have B2 := B1.trans b2
      go_wp2_with fail
      refine (HS.out s w2 _ B2 L2 (by have h1 := HFL.out wa xs; omega) HT.out).mono ?_
      rintro r w3 ⟨⟨v3, rfl⟩, L3, b3, R3⟩
      have h3n := R3.2 _ _ _ _ h2n (by decide) hgne
      have d0 : w3.cell? ⟨w.heap.size, 0, none⟩ = some (.string s) := R3.cell (j := 0) h2n (by decide) hgne rfl
      have d1 : w3.cell? ⟨w.heap.size, 1, none⟩ = some (.iface t1 u1) := R3.cell (j := 1) h2n (by decide) hgne rfl
      have d2 : w3.cell? ⟨w.heap.size, 2, none⟩ = some (.iface t2 u2) := R3.cell (j := 2) h2n (by decide) hgne rfl
      have hl3 : w.heap.size < w3.heap.size := (Array.getElem?_eq_some_iff.1 h3n).1
      have B3 := B2.trans b3
      clear y0 y1 y2 z0 z1 z2 c0 c1 c2
      go_wp2_with fail
      go_region_held3 (fun w' => w'.cell? ⟨w.heap.size, 0, none⟩ = some (.string s) ∧ w'.cell? ⟨w.heap.size, 1, none⟩ = some (.iface t1 u1) ∧ w'.cell? ⟨w.heap.size, 2, none⟩ = some (.iface t2 u2))
        (first | with_reducible exact ⟨j0, j1, j2⟩ | with_reducible exact ⟨i0, i1, i2⟩ | with_reducible exact ⟨(cell_drew0 _ _).trans d0, (cell_drew0 _ _).trans d1, (cell_drew0 _ _).trans d2⟩)
        (first | (go_at_call 181; refine (HH.out _).mono ?_; rintro r w4 ⟨rfl, hb4'⟩; have hb4 : Below w3.heap.size w3 w4 := (Below.refl _ w3).drew.trans hb4'; have i0 := (hb4.cell (p := ⟨w.heap.size, 0, none⟩) hl3).trans d0; have i1 := (hb4.cell (p := ⟨w.heap.size, 1, none⟩) hl3).trans d1; have i2 := (hb4.cell (p := ⟨w.heap.size, 2, none⟩) hl3).trans d2) | (go_at_call 185; refine (HW2.out _ _ (B3.trans (hb4.mono B3.size)) (L3.below hb4) ?len).mono ?_; (case len => have h1 := HFL.out wa xs; have h2 := HFL.out [s] (wa.foldl f xs); rw [List.length_singleton] at h2; omega); rintro r w5 ⟨⟨v5, rfl⟩, L5, b5, R5⟩; have h4n := (hb4.block _ hl3).trans h3n; have j0 : w5.cell? ⟨w.heap.size, 0, none⟩ = some (.string s) := R5.cell (j := 0) h4n (by decide) hgne rfl; have j1 : w5.cell? ⟨w.heap.size, 1, none⟩ = some (.iface t1 u1) := R5.cell (j := 1) h4n (by decide) hgne rfl; have j2 : w5.cell? ⟨w.heap.size, 2, none⟩ = some (.iface t2 u2) := R5.cell (j := 2) h4n (by decide) hgne rfl))
      go_wp2_with fail
      go_end0
      exact ⟨⟨_, rfl⟩, by simpa using L5, (hb0.mono hb.size).trans ((hb1.mono hba.size).trans (b2.trans (b3.trans ((hb4.mono B3.size).trans b5)))), (Rest.below hb0).trans ((Rest.below hb1).trans (R2.trans (R3.trans ((Rest.below hb4).trans R5))))⟩
theorem sends_deed (W0 : World) (g : Nat) : Sends 69 (fun l s => l ++ [s]) W0 g :=
  ⟨enters_of Tryz.func69 (by kernel_rfl) rfl, fun xs s => by simp, fun s w' ys h1 h2 h3 _ => sendD_any W0.heap.size g ys s w' h2 h1.size h3⟩
end Go.Proofs.YtabignplhkbcpaaGreatDoor
